/-
  Lemmas on the program and on the document's answers, gathered: FnChain, FnEnds, FnStands, PuParts, PuGrow, PuWay, WkNodes, PuGrow2, PuPut, PtItems, PuPlain, FnMade, PuSix, PuNew. Conditions: those that each lemma states.
-/
import Derived.Test.YtogieepfimpdmaaGreatBnd4
import Derived.Test.YtogieepfimpdmaaGreatProg
import Derived.Shelf.SlIterI.Keys
import Derived.Shelf.SlIterI.Stops
import Derived.Shelf.SlIterI.Sorted
import Derived.Shelf.SortM.Plain
import Derived.Shelf.SortM.SortNone
import Derived.Maps.OwnSet
import Derived.Maps.OwnIn
import Derived.Stop.RegionWithIn
/-
  Parts side by side, one behind the other, as package find goes; plain. Conditions: those that each lemma states.
-/
namespace Go.Proofs.YtogieepfimpdmaaGreat
open Go.RowKit

/-- What is known behind k parts: their last key. -/
def StC (g : Int → Option (Ky × Ky)) (l : List It) (k : Nat) (t : Ky) : Prop := k = 0 ∨ ∃ f, chainO g (l.take k) = some (f, t)
section
variable {g : Int → Option (Ky × Ky)} {l : List It} {k : Nat} {x : It} {p : Ky × Ky} {t : Ky}
theorem chain_no1 (hx : l[k]? = some x) (h : g x.2.1 = none) : chainO g l = none := by
  refine chain_bad (k := k + 1) (by omega) ?_
  by_cases h0 : k = 0
  · subst h0
    rw [chain_one hx, h]
    rfl
  · rw [chain_take hx (by omega), h]
    cases chainO g (l.take k) <;> rfl
theorem chain_no2 (hx : l[k]? = some x) (h : g x.2.1 = some p) (hp : p.1 ≠ x.1) : chainO g l = none := by
  refine chain_bad (k := k + 1) (by omega) ?_
  by_cases h0 : k = 0
  · subst h0
    rw [chain_one hx, h]
    simp [hp]
  · rw [chain_take hx (by omega), h]
    cases chainO g (l.take k) <;> simp [hp]
theorem chain_no3 (hx : l[k]? = some x) (h0 : k ≠ 0) (hs : StC g l k t) (hl : lessK t x.1 = false) : chainO g l = none := by
  rcases hs with hs | ⟨f, hs⟩
  · exact absurd hs h0
  refine chain_bad (k := k + 1) (by omega) ?_
  rw [chain_take hx (by omega), hs]
  cases g x.2.1 <;> simp [hl]
theorem chain_yes (hx : l[k]? = some x) (hs : StC g l k t) (hl : k ≠ 0 → lessK t x.1 = true) (h : g x.2.1 = some p) (hp : p.1 = x.1) : StC g l (k + 1) p.2 := by
  refine .inr ?_
  by_cases h0 : k = 0
  · subst h0
    rw [chain_one hx, h]
    exact ⟨p.1, by
      show (if p.1 = x.1 then some p else none) = some (p.1, p.2)
      rw [if_pos hp]⟩
  · rcases hs with hs | ⟨f, hs⟩
    · exact absurd hs h0
    rw [chain_take hx (by omega), hs, h]
    exact ⟨f, by simp [hp, hl h0]⟩
end
theorem span_empty {s : Rm} {n : Nd} (h : n.2.length = 0) : spanN s n = none := by
  have e : n.2 = [] := List.eq_nil_of_length_eq_zero h
  unfold spanN
  rw [e]
  cases n.1.toNat with
  | zero => simp [leafO]
  | succ l => rfl
/-- A part that is none, by its node. -/
theorem span_no {s : Rm} {l : Nat} {a : Int} (h : ¬ (rmE s a = 0 ∧ (rmV s a).1 = (l : Int) ∧ (rmV s a).2.length ≠ 0)) : spanO s l a = none := by
  rw [span_node]
  by_cases h1 : rmE s a = 0 ∧ (rmV s a).1 = (l : Int)
  · rw [if_pos h1]
    by_cases h2 : (rmV s a).2.length = 0
    · exact span_empty h2
    · exact absurd ⟨h1.1, h1.2, h2⟩ h
  · rw [if_neg h1]
theorem span_yes {s : Rm} {l : Nat} {a : Int} (h1 : rmE s a = 0) (h2 : (rmV s a).1 = (l : Int)) : spanO s l a = spanN s (rmV s a) := by
  rw [span_node, if_pos ⟨h1, h2⟩]
end Go.Proofs.YtogieepfimpdmaaGreat

/-
  Package find: the closure of stands that calls itself. Conditions: those that each lemma states.
-/
namespace Go.Proofs.YtogieepfimpdmaaGreat
open Go.RowKit

/-- The closure, with what it captured. -/
abbrev cloE (Bs Be : Nat) : Value := .func (.func 58) #[] #[.pointer (some ⟨Bs, 0, none⟩), .pointer (some ⟨Be, 0, none⟩)]
def BoxF (g : Nat) (v : Value) : World → Prop := fun w => w.cell? ⟨g, 0, none⟩ = some v ∧ g < w.heap.size
theorem lasts_boxF (g : Nat) (v : Value) : Lasts (BoxF g v) := fun _ _ h hb => ⟨(hb.cell (p := ⟨g, 0, none⟩) h.2).trans h.1, Nat.lt_of_lt_of_le h.2 hb.size⟩
def EndsP (s : Rm) (n : Nd) (w : World) : Ending → World → Prop := fun e w' => ∃ f t ok, e = .returned (.tuple #[kyV f, kyV t, .bool ok]) ∧ spanN s n = (if ok = true then some (f, t) else none) ∧ Below w.heap.size w w'
theorem ends_ret {s : Rm} {n : Nd} {w w' : World} (f t : Ky) (ok : Bool) (h : spanN s n = if ok = true then some (f, t) else none) (hb : Below w.heap.size w w') : EndsP s n w (.returned (.tuple #[kyV f, kyV t, .bool ok])) w' := ⟨f, t, ok, rfl, h, hb⟩
/-- What a call of it tells, at a level. -/
def EndsIs (s : Rm) (l : Nat) : Prop := ∀ (u v0 v1 v2 v3 : Value) (n : Nd) (Bs Be : Nat) (w : World), mayN n = true → n.1 = (l : Int) → n.2.length ≠ 0 → Nod (Old w) w u n → Sto (Old w) w (.agg #[v0, v1, v2, v3]) s → Box4 Bs v0 v1 v2 v3 w → BoxF Be (cloE Bs Be) w →
    Calls Tryz.prog 58 #[u, .pointer (some ⟨Bs, 0, none⟩), .pointer (some ⟨Be, 0, none⟩)] w (EndsP s n w)

set_option maxRecDepth 100000 in
set_option maxHeartbeats 8000000 in
theorem ends_step (s : Rm) (hm : mayR s = true) (l0 : Nat) (hr0 : ∀ j, l0 = j + 1 → EndsIs s j) : EndsIs s l0 := by
  intro u v0 v1 v2 v3 n Bs Be w hmn0 hlv hne hu h hBs hBe
  have hmn := Lib.hid hmn0
  obtain ⟨I, ci, rfl, -, -, -, hI⟩ := id hu.open
  obtain ⟨lw, hlw⟩ : ∃ q, n.1 = q := ⟨_, rfl⟩
  obtain ⟨l, hl⟩ : ∃ q, n.2 = q := ⟨_, rfl⟩
  obtain ⟨m, hlm⟩ : ∃ q, l.length = q := ⟨_, rfl⟩
  obtain ⟨R, hR⟩ : ∃ R, spanN s n = R := ⟨_, rfl⟩
  have hR0 := Lib.hid (fun (x y : It) (j : Nat) (h1 : n.1 = 0) (h2 : n.2[0]? = some x) (h3 : n.2.length = j + 1) (h4 : n.2[j]? = some y) => span_zero (s := s) h1 h2 h3 h4)
  have hR1 := Lib.hid (fun (j : Nat) (hj : n.1 = ((j + 1 : Nat) : Int)) => span_succ (s := s) hj)
  rw [hR] at hR0 hR1
  have hu' := hu
  rw [hl, hlm] at hI
  rw [hlw, hl, hlm] at hu'
  rw [hlw, hl, hlm] at hR0
  rw [hlw, hl] at hR1
  rw [hl, hlw, hlm]
  rw [hlw] at hlv
  rw [hl, hlm] at hne
  have hm5 : m ≤ 5 := by
    have := (mayN_of hmn.out).1.2.2.1
    rw [hl, hlm] at this
    exact this
  have HG0 : Bag w [BoxF Be (cloE Bs Be), Box4 Bs v0 v1 v2 v3, OldN (.agg #[.int .i64 lw, .slice I m ci]) n, OldIs (.slice I m ci) l, OldR (.agg #[v0, v1, v2, v3]) s] :=
    (((((Bag.nil w).add (F := OldR _ s) h (lasts_oldR _ _)).add (F := OldIs _ l) hI (lasts_oldIs _ _)).add (F := OldN _ n) hu' (lasts_oldN _ _)).add (F := Box4 _ _ _ _ _) hBs (lasts_box4 _ _ _ _ _)).add (F := BoxF _ _) hBe (lasts_boxF _ _)
  obtain ⟨w0, hw0, b0, hs0, hB0⟩ := box_pair' w (.int .i64 lw) (.slice I m ci) 45
  obtain ⟨w1, hw1, _, _, _, hs1, hB1, b1⟩ := box_three w0 (.int .u8 0) (.int .u32 0) (.int .u32 0) 37
  obtain ⟨w2, hw2, _, _, _, hs2, hB2, b2⟩ := box_three w1 (.int .u8 0) (.int .u32 0) (.int .u32 0) 37
  have HG := Lib.hid HG0
  have BB := Lib.hid ((hB0.trans (hB1.mono hB0.size)).trans (hB2.mono (hB0.trans (hB1.mono hB0.size)).size))
  have G0 : BoxW w.heap.size #[.int .i64 lw, .slice I m ci] 45 w2 := lasts_boxW _ _ _ _ _ (lasts_boxW _ _ _ _ _ b0 hB1) hB2
  have G1 : BoxW w0.heap.size #[.int .u8 0, .int .u32 0, .int .u32 0] 37 w2 := lasts_boxW _ _ _ _ _ b1 hB2
  have G2 : BoxW w1.heap.size #[.int .u8 0, .int .u32 0, .int .u32 0] 37 w2 := b2
  have lo : Hid (w.heap.size < w0.heap.size ∧ w0.heap.size < w1.heap.size ∧ w1.heap.size < w2.heap.size) := Lib.hid ⟨by omega, by omega, by omega⟩
  obtain ⟨y0, y1, _⟩ := two_cells G0
  replace hs2 := Lib.hid hs2
  replace hs1 := Lib.hid hs1
  replace hs0 := Lib.hid hs0
  replace hlw := Lib.hid hlw
  replace hl := Lib.hid hl
  replace hlm := Lib.hid hlm
  replace hlv := Lib.hid hlv
  replace hR := Lib.hid hR
  replace G0 := Lib.hid G0
  replace G1 := Lib.hid G1
  replace G2 := Lib.hid G2
  clear HG0 h hu hu' hB2 hB1 hB0 hI hBs hBe b0 b1 b2 hmn0
  obtain ⟨m1, hm1⟩ : ∃ j, m = j + 1 := ⟨m - 1, by omega⟩
  obtain ⟨x0, hx0⟩ : ∃ x, l[0]? = some x := ⟨_, List.getElem?_eq_getElem (by rw [hlm.out]; omega)⟩
  obtain ⟨yl, hyl⟩ : ∃ x, l[m1]? = some x := ⟨_, List.getElem?_eq_getElem (by rw [hlm.out]; omega)⟩
  have hx0' := Lib.hid hx0
  have hyl' := Lib.hid hyl
  have HW2 := Lib.hid (HG.out.below BB.out)
  obtain ⟨ad, E0, ce0, rfl, _, FX0⟩ := its_first (HW2.out.at 3 rfl : rIts (Old w2) w2 [.slice I m ci] l) hx0
  have FX := Lib.hid (fun W (hW : Below w2.heap.size w2 W) => (FX0 W hW).1)
  have iz : 0 < m := by omega
  cases l0 with
  | zero =>
    obtain ⟨ad', E6, ce6, e6, _, _, _, FY0⟩ := its_old (HW2.out.at 3 rfl : rIts (Old w2) w2 [.slice (some ad) m ci] l) hyl
    cases e6
    have FY := Lib.hid (fun W (hW : Below w2.heap.size w2 W) => (FY0 W hW).1)
    have e0 : lw = 0 := hlv.out
    subst e0
    obtain ⟨b, hb⟩ : ∃ b, leafO s l = b := ⟨_, rfl⟩
    have hfin := Lib.hid (hR0.out x0 yl m1 rfl hx0 hm1 hyl)
    rw [hb] at hfin
    replace hb := Lib.hid hb
    have i6 : (m : Int) - 1 = (m1 : Int) := by omega
    have i7 : (m1 : Int) < (m : Int) := by omega
    have i8 : (0 : Int) ≤ (m1 : Int) := by omega
    have i9 : IntKind.i64.wrap (m1 : Int) = (m1 : Int) := IntWalk.i64_in _ (by omega)
    have i0 : (0 : Int) < (m : Int) := by omega
    replace hm1 := Lib.hid hm1
    clear hR0 hR1 hx0 hyl FX0 FY0
    go_enter Tryz.func58, Tryz.ntmps58
    go_upto_region 1 with fail
    clear hw0 hw1 hw2
    go_wp2_with fail
    clear y0 y1
    obtain ⟨o4, ho4⟩ : ∃ o, (Obj.cells #[.int .u8 (x0.1.1.toNat : Int), .int .u32 x0.1.2.1, .int .u32 x0.1.2.2] 37 (0, 0)) = o := ⟨_, rfl⟩
    obtain ⟨o5, ho5⟩ : ∃ o, (Obj.cells #[.int .u8 (yl.1.1.toNat : Int), .int .u32 yl.1.2.1, .int .u32 yl.1.2.2] 37 (0, 0)) = o := ⟨_, rfl⟩
    obtain ⟨fin, hfn⟩ : ∃ f, finTwo w0.heap.size o4 w1.heap.size o5 = f := ⟨_, rfl⟩
    have fn4 : Hid (fin w0.heap.size = some o4) := Lib.hid (by rw [← hfn]; exact finTwo_one _ _ _ _)
    have fn5 : Hid (fin w1.heap.size = some o5) := Lib.hid (by rw [← hfn]; exact finTwo_two (by have := lo.out; omega) _ _)
    have fnl : Hid (∀ k, k < w0.heap.size → fin k = none) := Lib.hid fun k hk => by rw [← hfn]; exact finTwo_none (by omega) (by have := lo.out; omega) _ _
    replace ho4 := Lib.hid ho4
    replace ho5 := Lib.hid ho5
    replace hfn := Lib.hid hfn
    have HW0 := Lib.hid (fun W (hK : KeepT fin w2 W) => BB.out.trans (hK.below BB.out.size (fun k hk => fnl.out k (by have := lo.out; omega))))
    have hcl : Hid (∀ W, KeepT fin w2 W → Calls Tryz.prog 59 #[.agg #[v0, v1, v2, v3], .agg #[.int .i64 0, .slice (some ad) m ci]] W fun e W' => e = .returned (.bool b) ∧ Below W.heap.size W W') := Lib.hid fun W hK => by
      have HW := HG.out.below (HW0.out W hK)
      have := held_any _ _ s hm n hmn.out W (HW.at 4 rfl) (HW.at 2 rfl)
      rw [hl.out, hb.out] at this
      exact this
    have FXK : Hid (∀ W, KeepT fin w2 W → ∃ d, At5 W ad x0 d) := Lib.hid fun W hK => by
      obtain ⟨_, _, _, e, _, F⟩ := its_first ((HG.out.below (HW0.out W hK)).at 3 rfl : rIts (Old W) W [.slice (some ad) m ci] l) hx0'.out
      cases e
      exact ⟨_, (F W (Below.refl _ _)).1⟩
    have FYK : Hid (∀ W, KeepT fin w2 W → ∃ d, At5 W (ad.add (m1 * 5)) yl d) := Lib.hid fun W hK => by
      obtain ⟨_, _, _, e, _, _, _, F⟩ := its_old ((HG.out.below (HW0.out W hK)).at 3 rfl : rIts (Old W) W [.slice (some ad) m ci] l) hyl'.out
      cases e
      exact ⟨_, (F W (Below.refl _ _)).1⟩
    have KS : Hid (∀ W, KeepT fin w2 W → W.heap[w.heap.size]? = some (.cells #[.int .i64 0, .slice (some ad) m ci] 45 (0, 0))) := Lib.hid fun W hK => hK.other (fnl.out _ lo.out.1) G0.out
    have K4 : Hid (∀ W, KeepT fin w2 W → ∃ a b c, W.heap[w0.heap.size]? = some (.cells #[a, b, c] 37 (0, 0))) := Lib.hid fun W hK => by
      rcases hK.box fn4.out G1.out with e | e
      · exact ⟨_, _, _, e⟩
      · rw [← ho4.out] at e; exact ⟨_, _, _, e⟩
    have K5 : Hid (∀ W, KeepT fin w2 W → ∃ a b c, W.heap[w1.heap.size]? = some (.cells #[a, b, c] 37 (0, 0))) := Lib.hid fun W hK => by
      rcases hK.box fn5.out G2.out with e | e
      · exact ⟨_, _, _, e⟩
      · rw [← ho5.out] at e; exact ⟨_, _, _, e⟩
    refine Rb.wp_region_fx (KeepT fin) (by kernel_rfl) (fun W => KeepT fin w2 W) (fun i => match i with
      | 17 => some (fun _ W => W.heap[w0.heap.size]? = some o4)
      | 18 => some (fun _ W => W.heap[w1.heap.size]? = some o5)
      | _ => none) (fun i => match i with
      | 16 => some (.bool b)
      | _ => none) (by kernel_rfl) (KeepT.refl _ _).drew (fun w w' h hb => h.trans hb) ?tst ?_
    case tst =>
      intro j φ x W W' hp hx hb
      match j, hp with
      | 17, hp => cases hp; exact hb.done fn4.out hx
      | 18, hp => cases hp; exact hb.done fn5.out hx
    repeat (first
      | (refine Rb.wpAs_skip rfl ?_; simp only [Act.put, List.setIfInBounds_toArray, List.set_cons_zero, List.set_cons_succ])
      | (refine Rb.wpAs_pure (v := ?_) rfl rfl ?_ ?_; rotate_left; (intro W hC hE; clear hE; (obtain ⟨y0, y1, _⟩ := two_cells (KS.out W hC); obtain ⟨_, z0, z1, z2, _, _⟩ := FXK.out W hC; obtain ⟨_, u0, u1, u2, _, _⟩ := FYK.out W hC; obtain ⟨k0, k1, k2, k3, _⟩ := (HG.out.below (HW0.out W hC)).at 1 rfl); clear hC; go_simp; done); simp only [Act.put, List.setIfInBounds_toArray, List.set_cons_zero, List.set_cons_succ])
      | (refine Rb.wpAs_pure (v := ?_) rfl rfl ?_ ?_; rotate_left; (intro W hC hE; clear hE; (obtain ⟨y0, y1, _⟩ := two_cells (KS.out W hC); obtain ⟨_, z0, z1, z2, _, _⟩ := FXK.out W hC; obtain ⟨_, u0, u1, u2, _, _⟩ := FYK.out W hC; obtain ⟨k0, k1, k2, k3, _⟩ := (HG.out.below (HW0.out W hC)).at 1 rfl); clear hC; go_simp; with_reducible rfl); simp only [Act.put, List.setIfInBounds_toArray, List.set_cons_zero, List.set_cons_succ]))
    refine Rb.wpAs_fixed rfl rfl rfl ?_ ?_
    · intro W hC hE
      clear hE
      refine Rb.does_enter (f := 59) (args := #[.agg #[v0, v1, v2, v3], .agg #[.int .i64 0, .slice (some ad) m ci]]) ?_ ?_
      · go_simp
      · refine (hcl.out W hC).mono ?_
        rintro e W' ⟨rfl, hg⟩
        exact ⟨_, rfl, rfl, KeepT.of_below hg⟩
    simp only [Act.put, List.setIfInBounds_toArray, List.set_cons_zero, List.set_cons_succ]
    refine Rb.wpAs_act rfl rfl ?_ ?_
    · intro W hC hE
      clear hE
      obtain ⟨a, b, c, G⟩ := K4.out W hC
      obtain ⟨q0, q1, q2, q3, _⟩ := three_cells G
      obtain ⟨W1, hW1, g1, gr1, _⟩ := put_three (a' := .int .u8 (x0.1.1.toNat : Int)) (b' := .int .u32 x0.1.2.1) (c' := .int .u32 x0.1.2.2) G
      rw [ho4.out] at g1
      have hk := Lib.hid (KeepT.of_grown gr1 fn4.out g1)
      replace g1 := Lib.hid g1
      clear gr1 G hC
      go_simp
      exact ⟨g1.out, hk.out⟩
    simp only [Act.put, Rb.envAdd]
    intro _
    refine Rb.wpAs_act rfl rfl ?_ ?_
    · intro W hC hE
      clear hE
      obtain ⟨a, b, c, G⟩ := K5.out W hC
      obtain ⟨q0, q1, q2, q3, _⟩ := three_cells G
      obtain ⟨W1, hW1, g1, gr1, _⟩ := put_three (a' := .int .u8 (yl.1.1.toNat : Int)) (b' := .int .u32 yl.1.2.1) (c' := .int .u32 yl.1.2.2) G
      rw [ho5.out] at g1
      have hk := Lib.hid (KeepT.of_grown gr1 fn5.out g1)
      replace g1 := Lib.hid g1
      clear gr1 G hC
      go_simp
      exact ⟨g1.out, hk.out⟩
    simp only [Act.put, Rb.envAdd]
    intro _
    repeat (first
      | (refine Rb.wpAs_skip rfl ?_; simp only [Act.put, List.setIfInBounds_toArray, List.set_cons_zero, List.set_cons_succ])
      | (refine Rb.wpAs_pure (v := ?_) rfl rfl ?_ ?_; rotate_left; (intro W hC hE; clear hE; skip; clear hC; go_simp; done); simp only [Act.put, List.setIfInBounds_toArray, List.set_cons_zero, List.set_cons_succ])
      | (refine Rb.wpAs_pure (v := ?_) rfl rfl ?_ ?_; rotate_left; (intro W hC hE; clear hE; skip; clear hC; go_simp; with_reducible rfl); simp only [Act.put, List.setIfInBounds_toArray, List.set_cons_zero, List.set_cons_succ]))
    refine Rb.wpAs_end fun W hC hE => ?_
    have e5 := hE.1
    have e4 := hE.2.1
    have hB9 := Lib.hid (HW0.out W hC)
    rw [← ho4.out] at e4
    rw [← ho5.out] at e5
    obtain ⟨n0, n1, n2, _⟩ := three_cells e4
    obtain ⟨q0, q1, q2, _⟩ := three_cells e5
    replace e4 := Lib.hid e4
    replace e5 := Lib.hid e5
    clear hE hC
    go_wp2_with fail
    refine bodyPost_ret (v := .tuple #[kyV x0.1, kyV yl.1, .bool b]) (by simp [results, go_sem, n0, n1, n2, q0, q1, q2]) rfl ?_
    exact ends_ret (x0.1) (yl.1) b (hR.out.trans hfin.out) hB9.out
  | succ l1 =>
    have hrec := Lib.hid (hr0 l1 rfl)
    have c0 : (lw == 0) = false := by have := hlv.out; simp; omega
    have c1 : lw - 1 = (l1 : Int) := by have := hlv.out; omega
    have c2 : IntKind.i64.wrap (l1 : Int) = (l1 : Int) := by
      have := (mayN_of hmn.out).1.2.1
      rw [hlw.out, hlv.out] at this
      exact IntWalk.i64_in _ (by omega)
    have hRC : Hid (R = chainO (spanO s l1) l) := Lib.hid (hR1.out l1 hlv.out)
    replace hm1 := Lib.hid hm1
    clear hR0 hR1 hx0 hyl FX0
    go_enter Tryz.func58, Tryz.ntmps58
    go_upto_region 1 with fail
    clear hw0 hw1 hw2
    go_wp2_with fail
    clear y0 y1
    go_loopw [37] (fun vi wr => ∃ (k : Nat) (t : Ky), k ≤ m ∧ vi = .int .i64 k ∧ StC (spanO s l1) l k t ∧ Below w.heap.size w wr ∧ w2.heap.size ≤ wr.heap.size ∧ BoxW w.heap.size #[.int .i64 lw, .slice (some ad) m ci] 45 wr ∧ BoxW w0.heap.size #[.int .u8 0, .int .u32 0, .int .u32 0] 37 wr ∧ BoxW w1.heap.size #[.int .u8 (t.1.toNat : Int), .int .u32 t.2.1, .int .u32 t.2.2] 37 wr) (fun vi _ => m - (intOf vi).toNat)
    case atStart => exact ⟨0, keyZ, by omega, rfl, .inl rfl, BB.out, Nat.le_refl _, G0.out, G1.out, G2.out⟩
    case round =>
      obtain ⟨k, t, hk, rfl, hst, hbr, hsz, g0, g1, g2⟩ := hrel
      have HR := Lib.hid (HG.out.below hbr)
      have BR := Lib.hid hbr
      have SZ := Lib.hid hsz
      clear hbr hsz
      by_cases hlt : k < m
      case neg =>
        have hkm : k = m := by omega
        have hf : Hid (R = some (x0.1, t)) := Lib.hid (by
          subst hkm
          rcases hst with e | ⟨f, e⟩
          · omega
          · have e1 := chain_key hx0'.out (by omega) (by rw [hlm.out]; omega) e
            rw [List.take_of_length_le (by rw [hlm.out]; omega)] at e
            rw [hRC.out, e, ← e1])
        have i0 : (0 : Int) < (m : Int) := by omega
        have FXr := Lib.hid (fun W (hW : Below wr.heap.size wr W) => (its_first (HR.out.at 3 rfl : rIts (Old wr) wr [.slice (some ad) m ci] l) hx0'.out))
        obtain ⟨ad', E6, ce6, e6, _, FZ⟩ := its_first (HR.out.at 3 rfl : rIts (Old wr) wr [.slice (some ad) m ci] l) hx0'.out
        cases e6
        have FZ' := Lib.hid (fun W (hW : Below wr.heap.size wr W) => (FZ W hW).1)
        replace hst := Lib.hid hst
        replace g0 := Lib.hid g0
        replace g1 := Lib.hid g1
        replace g2 := Lib.hid g2
        clear FXr FZ hkm
        go_upto_region 14 with fail
        obtain ⟨y0, y1, _⟩ := two_cells g0.out
        obtain ⟨z0, z1, z2, _, _⟩ := FZ'.out wr (Below.refl _ _)
        have G4 : wr.heap[w0.heap.size]? = _ := g1.out
        have G5 : wr.heap[w1.heap.size]? = _ := g2.out
        obtain ⟨q0, q1, q2, q3, _⟩ := three_cells G5
        have BW := Lib.hid BR.out
        obtain ⟨W8, hW8, g8, gr8, gs8⟩ := put_three (a' := .int .u8 ((x0.1).1.toNat : Int)) (b' := .int .u32 (x0.1).2.1) (c' := .int .u32 (x0.1).2.2) G4
        have G8 : W8.heap[w1.heap.size]? = _ := (gr8.block w1.heap.size (Array.getElem?_eq_some_iff.1 G5).1 (by simp; have := lo.out; omega)).trans G5
        obtain ⟨W9, hW9, g9, gr9, gs9⟩ := put_three (a' := .int .u8 ((t).1.toNat : Int)) (b' := .int .u32 (t).2.1) (c' := .int .u32 (t).2.2) G8
        have g8' : W9.heap[w0.heap.size]? = _ := (gr9.block w0.heap.size (Array.getElem?_eq_some_iff.1 g8).1 (by simp; have := lo.out; omega)).trans g8
        obtain ⟨f4, f5, f6, f7, _⟩ := three_cells G4
        obtain ⟨j4, j5, j6, j7, _⟩ := three_cells G8
        obtain ⟨n0, n1, n2, _, _⟩ := three_cells g8'
        obtain ⟨o0, o1, o2, _, _⟩ := three_cells g9
        have hB9 := Lib.hid ((BW.out.grown gr8 BW.out.size (fun q e => by cases e; have := lo.out; omega)).grown gr9 (Nat.le_trans BW.out.size gr8.size) (fun q e => by cases e; have := lo.out; omega))
        replace G4 := Lib.hid G4
        replace G5 := Lib.hid G5
        replace G8 := Lib.hid G8
        replace g8 := Lib.hid g8
        replace g8' := Lib.hid g8'
        replace g9 := Lib.hid g9
        clear gr8 gr9 gs8 gs9
        go_region
        all_goals
          go_wp2_with fail
          refine bodyPost_ret (v := .tuple #[kyV x0.1, kyV t, .bool true]) (by simp [results, go_sem, n0, n1, n2, o0, o1, o2]) rfl ?_
          exact ends_ret (x0.1) (t) true (hR.out.trans hf.out) (below_drewN hB9.out _)
      obtain ⟨x, hx⟩ : ∃ x, l[k]? = some x := ⟨_, List.getElem?_eq_getElem (by rw [hlm.out]; exact hlt)⟩
      obtain ⟨ad', E5, ce5, e5, _, _, _, FZ⟩ := its_old (HR.out.at 3 rfl : rIts (Old wr) wr [.slice (some ad) m ci] l) hx
      cases e5
      obtain ⟨⟨z0, z1, z2, z3, z4⟩, _⟩ := FZ wr (Below.refl _ _)
      have hno1 := Lib.hid (fun h1 => hRC.out.trans (chain_no1 (g := spanO s l1) hx h1))
      have hno2 := Lib.hid (fun p h1 h2 => hRC.out.trans (chain_no2 (g := spanO s l1) (p := p) hx h1 h2))
      have hno3 := Lib.hid (fun h1 h2 => hRC.out.trans (chain_no3 (g := spanO s l1) hx h1 hst h2))
      have hyes := Lib.hid (fun p h1 h2 h3 => chain_yes (g := spanO s l1) (p := p) hx hst h1 h2 h3)
      have i4 : (0 : Int) ≤ (k : Int) := by omega
      have i5 : (k : Int) < (m : Int) := by omega
      replace hst := Lib.hid hst
      replace hx := Lib.hid hx
      obtain ⟨w3, hw3, hg3, hB3, -, hs3⟩ := bag_item (((HR.out.add (F := BoxW _ _ _) g2 (lasts_boxW _ _ _)).add (F := BoxW _ _ _) g1 (lasts_boxW _ _ _)).add (F := BoxW _ _ _) g0 (lasts_boxW _ _ _)) (Below.refl _ _) (.int .u8 (x.1.1.toNat : Int)) (.int .u32 x.1.2.1) (.int .u32 x.1.2.2) (.int .i64 x.2.1) (.slice E5 x.2.2.length ce5)
      have H3 := Lib.hid hg3
      have B3 := Lib.hid (BR.out.trans (hB3.mono BR.out.size))
      have S3 := Lib.hid (Nat.le_trans SZ.out hB3.size)
      replace hs3 := Lib.hid hs3
      clear FZ hg3 hB3 g0 g1 g2 HR BR SZ
      go_upto_region 6 with fail
      clear hw3 z0 z1 z2 z3 z4
      obtain ⟨k0, k1, k2, k3, _⟩ := H3.out.at 5 rfl
      obtain ⟨r0, r1, r2, r3, r4, _⟩ := H3.out.at 0 rfl
      have hNd := Lib.hid (fun v W hW => nodeR_open v s x.2.1 W hW)
      have hmy := Lib.hid (fun hh => (rm_may (s := s) (a := x.2.1) hh).1)
      have hsn := Lib.hid (fun hh => hno1.out (span_no (s := s) (l := l1) (a := x.2.1) hh))
      have hsy := Lib.hid (fun h1 h2 => span_yes (s := s) (l := l1) (a := x.2.1) h1 h2)
      obtain ⟨nb, hnb⟩ : ∃ q, rmV s x.2.1 = q := ⟨_, rfl⟩
      obtain ⟨eb, heb⟩ : ∃ q, rmE s x.2.1 = q := ⟨_, rfl⟩
      rw [hnb, heb] at hNd hsn hsy
      rw [hnb, heb] at hmy
      obtain ⟨lb, hlb⟩ : ∃ q, nb.1 = q := ⟨_, rfl⟩
      obtain ⟨mb, hmb⟩ : ∃ q, nb.2.length = q := ⟨_, rfl⟩
      rw [hlb, hmb] at hNd hsn
      rw [hlb] at hsy
      replace hnb := Lib.hid hnb
      replace heb := Lib.hid heb
      replace hlb := Lib.hid hlb
      replace hmb := Lib.hid hmb
      go_wp2_with fail
      with_reducible refine (hNd.out _ _ (H3.out.at 8 rfl)).mono ?_
      rintro e w4 ⟨Z, zc, rfl, -, h4n, hb4⟩
      obtain ⟨w5, hw5, hg5, hB5, -, hs5⟩ := bag_node ((H3.out.below hb4).add (F := OldN _ nb) h4n.drop (lasts_oldN _ _)) (Below.refl _ _) (.int .i64 lb) (.slice Z mb zc)
      have H5 := Lib.hid hg5
      have B5 := Lib.hid (B3.out.trans ((hb4.trans (hB5.mono hb4.size)).mono B3.out.size))
      have S5 := Lib.hid (Nat.le_trans S3.out (hb4.trans (hB5.mono hb4.size)).size)
      replace hs5 := Lib.hid hs5
      clear k0 k1 k2 k3 r0 r1 r2 r3 r4 hg5 hB5 hb4 h4n H3 B3 S3 hNd
      go_upto_region 7 with fail
      clear hw5
      obtain ⟨y0, y1, _⟩ := H5.out.at 0 rfl
      obtain ⟨f0, f1, _⟩ := two_cells (H5.out.at 3 rfl)
      by_cases he : eb = 0
      case neg =>
        have e1 : (eb != 0) = true := by simpa using he
        have hf := Lib.hid (hsn.out (fun hh => he hh.1))
        clear he
        have G4 : w5.heap[w0.heap.size]? = _ := H5.out.at 4 rfl
        have G5 : w5.heap[w1.heap.size]? = _ := H5.out.at 5 rfl
        have BW := Lib.hid B5.out
        obtain ⟨W8, hW8, g8, gr8, gs8⟩ := put_three (a' := .int .u8 0) (b' := .int .u32 0) (c' := .int .u32 0) G4
        have G8 : W8.heap[w1.heap.size]? = _ := (gr8.block w1.heap.size (Array.getElem?_eq_some_iff.1 G5).1 (by simp; have := lo.out; omega)).trans G5
        obtain ⟨W9, hW9, g9, gr9, gs9⟩ := put_three (a' := .int .u8 0) (b' := .int .u32 0) (c' := .int .u32 0) G8
        have g8' : W9.heap[w0.heap.size]? = _ := (gr9.block w0.heap.size (Array.getElem?_eq_some_iff.1 g8).1 (by simp; have := lo.out; omega)).trans g8
        obtain ⟨f4, f5, f6, f7, _⟩ := three_cells G4
        obtain ⟨j4, j5, j6, j7, _⟩ := three_cells G8
        obtain ⟨n0, n1, n2, _, _⟩ := three_cells g8'
        obtain ⟨o0, o1, o2, _, _⟩ := three_cells g9
        have hB9 := Lib.hid ((BW.out.grown gr8 BW.out.size (fun q e => by cases e; have := lo.out; omega)).grown gr9 (Nat.le_trans BW.out.size gr8.size) (fun q e => by cases e; have := lo.out; omega))
        replace G4 := Lib.hid G4
        replace G5 := Lib.hid G5
        replace G8 := Lib.hid G8
        replace g8 := Lib.hid g8
        replace g8' := Lib.hid g8'
        replace g9 := Lib.hid g9
        clear gr8 gr9 gs8 gs9
        go_wp2_with fail
        refine bodyPost_ret (v := .tuple #[.agg #[.int .u8 0, .int .u32 0, .int .u32 0], .agg #[.int .u8 0, .int .u32 0, .int .u32 0], .bool false]) (by simp [results, go_sem, n0, n1, n2, o0, o1, o2]) rfl ?_
        exact ends_ret (keyZ) (keyZ) false (hR.out.trans hf.out) hB9.out
      subst he
      by_cases hv : lb = (l1 : Int)
      case neg =>
        have e1 : (lb != (l1 : Int)) = true := by simpa using hv
        have hf := Lib.hid (hsn.out (fun hh => hv hh.2.1))
        clear hv
        have G4 : w5.heap[w0.heap.size]? = _ := H5.out.at 4 rfl
        have G5 : w5.heap[w1.heap.size]? = _ := H5.out.at 5 rfl
        have BW := Lib.hid B5.out
        obtain ⟨W8, hW8, g8, gr8, gs8⟩ := put_three (a' := .int .u8 0) (b' := .int .u32 0) (c' := .int .u32 0) G4
        have G8 : W8.heap[w1.heap.size]? = _ := (gr8.block w1.heap.size (Array.getElem?_eq_some_iff.1 G5).1 (by simp; have := lo.out; omega)).trans G5
        obtain ⟨W9, hW9, g9, gr9, gs9⟩ := put_three (a' := .int .u8 0) (b' := .int .u32 0) (c' := .int .u32 0) G8
        have g8' : W9.heap[w0.heap.size]? = _ := (gr9.block w0.heap.size (Array.getElem?_eq_some_iff.1 g8).1 (by simp; have := lo.out; omega)).trans g8
        obtain ⟨f4, f5, f6, f7, _⟩ := three_cells G4
        obtain ⟨j4, j5, j6, j7, _⟩ := three_cells G8
        obtain ⟨n0, n1, n2, _, _⟩ := three_cells g8'
        obtain ⟨o0, o1, o2, _, _⟩ := three_cells g9
        have hB9 := Lib.hid ((BW.out.grown gr8 BW.out.size (fun q e => by cases e; have := lo.out; omega)).grown gr9 (Nat.le_trans BW.out.size gr8.size) (fun q e => by cases e; have := lo.out; omega))
        replace G4 := Lib.hid G4
        replace G5 := Lib.hid G5
        replace G8 := Lib.hid G8
        replace g8 := Lib.hid g8
        replace g8' := Lib.hid g8'
        replace g9 := Lib.hid g9
        clear gr8 gr9 gs8 gs9
        go_wp2_with fail
        refine bodyPost_ret (v := .tuple #[.agg #[.int .u8 0, .int .u32 0, .int .u32 0], .agg #[.int .u8 0, .int .u32 0, .int .u32 0], .bool false]) (by simp [results, go_sem, n0, n1, n2, o0, o1, o2]) rfl ?_
        exact ends_ret (keyZ) (keyZ) false (hR.out.trans hf.out) hB9.out
      have e1 : (lb != (l1 : Int)) = false := by simp [hv]
      replace hv := Lib.hid hv
      by_cases hz : mb = 0
      · have e2 : ((mb : Int) == 0) = true := by simp [hz]
        have hf := Lib.hid (hsn.out (fun hh => hh.2.2 hz))
        replace hz := Lib.hid hz
        have G4 : w5.heap[w0.heap.size]? = _ := H5.out.at 4 rfl
        have G5 : w5.heap[w1.heap.size]? = _ := H5.out.at 5 rfl
        have BW := Lib.hid B5.out
        obtain ⟨W8, hW8, g8, gr8, gs8⟩ := put_three (a' := .int .u8 0) (b' := .int .u32 0) (c' := .int .u32 0) G4
        have G8 : W8.heap[w1.heap.size]? = _ := (gr8.block w1.heap.size (Array.getElem?_eq_some_iff.1 G5).1 (by simp; have := lo.out; omega)).trans G5
        obtain ⟨W9, hW9, g9, gr9, gs9⟩ := put_three (a' := .int .u8 0) (b' := .int .u32 0) (c' := .int .u32 0) G8
        have g8' : W9.heap[w0.heap.size]? = _ := (gr9.block w0.heap.size (Array.getElem?_eq_some_iff.1 g8).1 (by simp; have := lo.out; omega)).trans g8
        obtain ⟨f4, f5, f6, f7, _⟩ := three_cells G4
        obtain ⟨j4, j5, j6, j7, _⟩ := three_cells G8
        obtain ⟨n0, n1, n2, _, _⟩ := three_cells g8'
        obtain ⟨o0, o1, o2, _, _⟩ := three_cells g9
        have hB9 := Lib.hid ((BW.out.grown gr8 BW.out.size (fun q e => by cases e; have := lo.out; omega)).grown gr9 (Nat.le_trans BW.out.size gr8.size) (fun q e => by cases e; have := lo.out; omega))
        replace G4 := Lib.hid G4
        replace G5 := Lib.hid G5
        replace G8 := Lib.hid G8
        replace g8 := Lib.hid g8
        replace g8' := Lib.hid g8'
        replace g9 := Lib.hid g9
        clear gr8 gr9 gs8 gs9
        go_wp2_with fail
        refine bodyPost_ret (v := .tuple #[.agg #[.int .u8 0, .int .u32 0, .int .u32 0], .agg #[.int .u8 0, .int .u32 0, .int .u32 0], .bool false]) (by simp [results, go_sem, n0, n1, n2, o0, o1, o2]) rfl ?_
        exact ends_ret (keyZ) (keyZ) false (hR.out.trans hf.out) hB9.out
      have e2 : ((mb : Int) == 0) = false := by simpa using hz
      replace hz := Lib.hid hz
      have hspan := Lib.hid (hsy.out rfl hv.out)
      have hmb' := Lib.hid (hmy.out rfl)
      obtain ⟨c3, c4⟩ := (H5.out.at 6 rfl : BoxF Be (cloE Bs Be) w5)
      have hcall := Lib.hid (hrec.out (.agg #[.int .i64 lb, .slice Z mb zc]) v0 v1 v2 v3 nb Bs Be w5 hmb'.out (by rw [hlb.out, hv.out]) (by rw [hmb.out]; exact hz.out) (H5.out.at 1 rfl) (H5.out.at 10 rfl) (H5.out.at 7 rfl) (H5.out.at 6 rfl))
      clear hsn hsy hmy
      go_upto_region 9 with fail
      clear e1 e2 f0 f1
      go_wp2_with fail
      with_reducible refine hcall.out.mono ?_
      rintro e w6 ⟨f', t', ok, rfl, hsp, hb6⟩
      obtain ⟨w7, hw7, p0, p1, p2, hs7, hB7, _⟩ := box_three w6 (.int .u8 (f'.1.toNat : Int)) (.int .u32 f'.2.1) (.int .u32 f'.2.2) 37
      have hg7 := ((H5.out.below hb6).below hB7).add (F := Box3 w6.heap.size _ _ _) ⟨p0, p1, p2, by omega⟩ (lasts_box3 _ _ _ _)
      obtain ⟨w8, hw8, hg8, hB8, hB8', hs8⟩ := bag_key hg7 (Below.refl _ _) (.int .u8 (t'.1.toNat : Int)) (.int .u32 t'.2.1) (.int .u32 t'.2.2)
      have H8 := Lib.hid hg8
      have hb8 := hb6.trans ((hB7.trans (hB8.mono hB7.size)).mono hb6.size)
      have B8 := Lib.hid (B5.out.trans (hb8.mono B5.out.size))
      have S8 := Lib.hid (Nat.le_trans S5.out hb8.size)
      replace hs8 := Lib.hid hs8
      clear p0 p1 p2 hg7 hg8 hB7 hB8 hB8' hb6 hb8 y0 y1 c3 c4 hcall H5 B5 S5
      go_upto_region 10 with fail
      clear hw7 hw8
      obtain ⟨p0, p1, p2, _⟩ := H8.out.at 1 rfl
      obtain ⟨q0, q1, q2, _⟩ := H8.out.at 0 rfl
      rw [hs7] at q0 q1 q2
      replace hs7 := Lib.hid hs7
      obtain ⟨r0, r1, r2, r3, r4, _⟩ := H8.out.at 4 rfl
      have hg2 : w8.heap[w1.heap.size]? = _ := H8.out.at 7 rfl
      obtain ⟨d0, d1, d2, d3, _⟩ := three_cells hg2
      have G4 : w8.heap[w0.heap.size]? = _ := H8.out.at 6 rfl
      have G5 : w8.heap[w1.heap.size]? = _ := H8.out.at 7 rfl
      have BW := Lib.hid B8.out
      replace hg2 := Lib.hid hg2
      cases ok with
      | false =>
        have hf := Lib.hid (hno1.out (hspan.out.trans hsp))
        clear d3 hno2 hno3 hyes
        obtain ⟨W8, hW8, g8, gr8, gs8⟩ := put_three (a' := .int .u8 0) (b' := .int .u32 0) (c' := .int .u32 0) G4
        have G8 : W8.heap[w1.heap.size]? = _ := (gr8.block w1.heap.size (Array.getElem?_eq_some_iff.1 G5).1 (by simp; have := lo.out; omega)).trans G5
        obtain ⟨W9, hW9, g9, gr9, gs9⟩ := put_three (a' := .int .u8 0) (b' := .int .u32 0) (c' := .int .u32 0) G8
        have g8' : W9.heap[w0.heap.size]? = _ := (gr9.block w0.heap.size (Array.getElem?_eq_some_iff.1 g8).1 (by simp; have := lo.out; omega)).trans g8
        obtain ⟨f4, f5, f6, f7, _⟩ := three_cells G4
        obtain ⟨j4, j5, j6, j7, _⟩ := three_cells G8
        obtain ⟨n0, n1, n2, _, _⟩ := three_cells g8'
        obtain ⟨o0, o1, o2, _, _⟩ := three_cells g9
        have hB9 := Lib.hid ((BW.out.grown gr8 BW.out.size (fun q e => by cases e; have := lo.out; omega)).grown gr9 (Nat.le_trans BW.out.size gr8.size) (fun q e => by cases e; have := lo.out; omega))
        replace G4 := Lib.hid G4
        replace G5 := Lib.hid G5
        replace G8 := Lib.hid G8
        replace g8 := Lib.hid g8
        replace g8' := Lib.hid g8'
        replace g9 := Lib.hid g9
        clear gr8 gr9 gs8 gs9
        go_wp2_with fail
        refine bodyPost_ret (v := .tuple #[.agg #[.int .u8 0, .int .u32 0, .int .u32 0], .agg #[.int .u8 0, .int .u32 0, .int .u32 0], .bool false]) (by simp [results, go_sem, n0, n1, n2, o0, o1, o2]) rfl ?_
        exact ends_ret (keyZ) (keyZ) false (hR.out.trans hf.out) hB9.out
      | true =>
      have hsp' := Lib.hid (hspan.out.trans (hsp.trans (if_pos rfl)))
      have hke := key_eq f' x.1
      have hkg := key_guard
      unfold kyV at hke
      by_cases hkk : f' = x.1
      case neg =>
        have g3 : decide (f' = x.1) = false := by simpa using hkk
        rw [g3] at hke
        have hf := Lib.hid (hno2.out _ hsp'.out hkk)
        clear d3 hkk hno1 hno2 hno3 hyes
        obtain ⟨W8, hW8, g8, gr8, gs8⟩ := put_three (a' := .int .u8 0) (b' := .int .u32 0) (c' := .int .u32 0) G4
        have G8 : W8.heap[w1.heap.size]? = _ := (gr8.block w1.heap.size (Array.getElem?_eq_some_iff.1 G5).1 (by simp; have := lo.out; omega)).trans G5
        obtain ⟨W9, hW9, g9, gr9, gs9⟩ := put_three (a' := .int .u8 0) (b' := .int .u32 0) (c' := .int .u32 0) G8
        have g8' : W9.heap[w0.heap.size]? = _ := (gr9.block w0.heap.size (Array.getElem?_eq_some_iff.1 g8).1 (by simp; have := lo.out; omega)).trans g8
        obtain ⟨f4, f5, f6, f7, _⟩ := three_cells G4
        obtain ⟨j4, j5, j6, j7, _⟩ := three_cells G8
        obtain ⟨n0, n1, n2, _, _⟩ := three_cells g8'
        obtain ⟨o0, o1, o2, _, _⟩ := three_cells g9
        have hB9 := Lib.hid ((BW.out.grown gr8 BW.out.size (fun q e => by cases e; have := lo.out; omega)).grown gr9 (Nat.le_trans BW.out.size gr8.size) (fun q e => by cases e; have := lo.out; omega))
        replace G4 := Lib.hid G4
        replace G5 := Lib.hid G5
        replace G8 := Lib.hid G8
        replace g8 := Lib.hid g8
        replace g8' := Lib.hid g8'
        replace g9 := Lib.hid g9
        clear gr8 gr9 gs8 gs9
        go_wp2_with fail
        refine bodyPost_ret (v := .tuple #[.agg #[.int .u8 0, .int .u32 0, .int .u32 0], .agg #[.int .u8 0, .int .u32 0, .int .u32 0], .bool false]) (by simp [results, go_sem, n0, n1, n2, o0, o1, o2]) rfl ?_
        exact ends_ret (keyZ) (keyZ) false (hR.out.trans hf.out) hB9.out
      have g3 : decide (f' = x.1) = true := by simpa using hkk
      rw [g3] at hke
      have hkk' := Lib.hid hkk
      clear hkk hno1 hno2 hsp
      by_cases hk0 : k = 0
      · have i0 : ¬ (0 : Int) < (k : Int) := by omega
        have hn := Lib.hid (hyes.out (f', t') (fun hh => absurd hk0 hh) hsp'.out hkk'.out)
        have hk0' := Lib.hid hk0
        clear hk0
        obtain ⟨W9, hW9, g9, gr9, gs9⟩ := put_three (a' := .int .u8 (t'.1.toNat : Int)) (b' := .int .u32 t'.2.1) (c' := .int .u32 t'.2.2) hg2.out
        have hB9 := Lib.hid (BW.out.grown gr9 BW.out.size (fun q e => by cases e; have := lo.out; omega))
        have S9 := Lib.hid (Nat.le_trans S8.out gr9.size)
        have b9 := Lib.hid ((gr9.block w.heap.size (by have := lo.out; have := S8.out; omega) (by simp; have := lo.out; omega)).trans (H8.out.at 5 rfl))
        have c9 := Lib.hid ((gr9.block w0.heap.size (by have := lo.out; have := S8.out; omega) (by simp; have := lo.out; omega)).trans (H8.out.at 6 rfl))
        replace g9 := Lib.hid g9
        clear gr9 gs9
        go_wp2_with fail
        go_roundw
        case rel => exact ⟨k + 1, t', by omega, by go_num, hn.out, hB9.out, S9.out, b9.out, c9.out, g9.out⟩
        case measure => simp [intOf]; omega
      · have i0 : (0 : Int) < (k : Int) := by omega
        obtain ⟨q, hq⟩ : ∃ q, lessK t x.1 = q := ⟨_, rfl⟩
        have hls := Lib.hid (less_any t x.1 w8)
        rw [hq] at hls
        go_wp2_with fail
        with_reducible refine hls.out.mono ?_
        rintro e w9 ⟨rfl, hb9⟩
        cases q with
        | false =>
          have hf := Lib.hid (hno3.out hk0 hq)
          replace G4 := (hb9.block w0.heap.size (by have := lo.out; have := S8.out; omega)).trans G4
          replace G5 := (hb9.block w1.heap.size (by have := lo.out; have := S8.out; omega)).trans G5
          replace BW := Lib.hid (B8.out.trans (hb9.mono B8.out.size))
          replace hq := Lib.hid hq
          clear d0 d1 d2 d3 hb9 hno3 hyes hk0
          obtain ⟨W8, hW8, g8, gr8, gs8⟩ := put_three (a' := .int .u8 0) (b' := .int .u32 0) (c' := .int .u32 0) G4
          have G8 : W8.heap[w1.heap.size]? = _ := (gr8.block w1.heap.size (Array.getElem?_eq_some_iff.1 G5).1 (by simp; have := lo.out; omega)).trans G5
          obtain ⟨W9, hW9, g9, gr9, gs9⟩ := put_three (a' := .int .u8 0) (b' := .int .u32 0) (c' := .int .u32 0) G8
          have g8' : W9.heap[w0.heap.size]? = _ := (gr9.block w0.heap.size (Array.getElem?_eq_some_iff.1 g8).1 (by simp; have := lo.out; omega)).trans g8
          obtain ⟨f4, f5, f6, f7, _⟩ := three_cells G4
          obtain ⟨j4, j5, j6, j7, _⟩ := three_cells G8
          obtain ⟨n0, n1, n2, _, _⟩ := three_cells g8'
          obtain ⟨o0, o1, o2, _, _⟩ := three_cells g9
          have hB9 := Lib.hid ((BW.out.grown gr8 BW.out.size (fun q e => by cases e; have := lo.out; omega)).grown gr9 (Nat.le_trans BW.out.size gr8.size) (fun q e => by cases e; have := lo.out; omega))
          replace G4 := Lib.hid G4
          replace G5 := Lib.hid G5
          replace G8 := Lib.hid G8
          replace g8 := Lib.hid g8
          replace g8' := Lib.hid g8'
          replace g9 := Lib.hid g9
          clear gr8 gr9 gs8 gs9
          go_wp2_with fail
          refine bodyPost_ret (v := .tuple #[.agg #[.int .u8 0, .int .u32 0, .int .u32 0], .agg #[.int .u8 0, .int .u32 0, .int .u32 0], .bool false]) (by simp [results, go_sem, n0, n1, n2, o0, o1, o2]) rfl ?_
          exact ends_ret (keyZ) (keyZ) false (hR.out.trans hf.out) hB9.out
        | true =>
          have hn := Lib.hid (hyes.out (f', t') (fun _ => hq) hsp'.out hkk'.out)
          replace H8 := Lib.hid (H8.out.below hb9)
          replace B8 := Lib.hid (B8.out.trans (hb9.mono B8.out.size))
          replace S8 := Lib.hid (Nat.le_trans S8.out hb9.size)
          replace BW := Lib.hid B8.out
          replace hq := Lib.hid hq
          replace hg2 : Hid (w9.heap[w1.heap.size]? = _) := Lib.hid (H8.out.at 7 rfl)
          clear hb9 p0 p1 p2 q0 q1 q2 r0 r1 r2 r3 r4 d0 d1 d2 d3 G4 G5 hno3 hyes hk0
          obtain ⟨q0, q1, q2, _⟩ := H8.out.at 0 rfl
          rw [hs7.out] at q0 q1 q2
          obtain ⟨d0, d1, d2, d3, _⟩ := three_cells hg2.out
          obtain ⟨W9, hW9, g9, gr9, gs9⟩ := put_three (a' := .int .u8 (t'.1.toNat : Int)) (b' := .int .u32 t'.2.1) (c' := .int .u32 t'.2.2) hg2.out
          have hB9 := Lib.hid (BW.out.grown gr9 BW.out.size (fun q e => by cases e; have := lo.out; omega))
          have S9 := Lib.hid (Nat.le_trans S8.out gr9.size)
          have b9 := Lib.hid ((gr9.block w.heap.size (by have := lo.out; have := S8.out; omega) (by simp; have := lo.out; omega)).trans (H8.out.at 5 rfl))
          have c9 := Lib.hid ((gr9.block w0.heap.size (by have := lo.out; have := S8.out; omega) (by simp; have := lo.out; omega)).trans (H8.out.at 6 rfl))
          replace g9 := Lib.hid g9
          clear gr9 gs9
          go_wp2_with fail
          go_roundw
          case rel => exact ⟨k + 1, t', by omega, by go_num, hn.out, hB9.out, S9.out, b9.out, c9.out, g9.out⟩
          case measure => simp [intOf]; omega
theorem ends_any (s : Rm) (hm : mayR s = true) : ∀ l : Nat, EndsIs s l := by
  intro l
  induction l using Nat.strongRecOn with
  | ind l ih => exact ends_step s hm l fun j hj => ih j (by omega)
end Go.Proofs.YtogieepfimpdmaaGreat

/-
  Package find: stands, Check. Conditions: those that each lemma states.
-/
namespace Go.Proofs.YtogieepfimpdmaaGreat
open Go.RowKit

theorem reN_eight {b : List UInt8} (h : b.length = 128) (hr : reN b ≠ 0) : reN b = 8 := by
  by_cases ho : oe b = 0
  · cases h1 : rdN (ob b) with
    | false => exact (reN_bad ho h1).1
    | true => exact absurd (reN_good ho h1).1 hr
  · have h8 : oe b = 8 := by
      unfold oe at ho ⊢
      rw [if_pos h] at ho ⊢
      split at ho
      · exact absurd rfl ho
      · rename_i hf
        rw [if_neg hf]
    rw [(reN_open ho).1, h8]
theorem box_one (w : World) (v : Value) (t : TypeId) : ∃ w1, w.alloc (.cells #[v] t) = w1 ∧ w1.cell? ⟨w.heap.size, 0, none⟩ = some v ∧ w1.heap.size = w.heap.size + 1 ∧ Below w.heap.size w w1 :=
  ⟨_, rfl, by simp, by simp, (Below.refl _ _).alloc (Nat.le_refl _) _⟩

set_option maxRecDepth 100000 in
set_option maxHeartbeats 8000000 in
theorem stands_any (v u : Value) (s : Rm) (hm : mayR s = true) (n : Nd) (hn : mayN n = true) (w : World) (h : Sto (Old w) w v s) (hu : Nod (Old w) w u n) :
    Calls Tryz.prog 33 #[v, u] w fun e w' => e = .returned (.bool (standsN s n)) ∧ Below w.heap.size w w' := by
  have hmf : ∀ (fn : Fn) (first cap : Array Value) (w : World), (Instr.makeFunc fn first cap).run Tryz.prog w = .ok (.func fn first cap) w := fun _ _ _ _ => rfl
  have hsf : ∀ (a : Addr) (fn : Fn) (x y : Array Value) (w : World), (store a (.func fn x y)).run Tryz.prog w = stored Tryz.prog w a (.func fn x y) .plain := fun _ _ _ _ _ => run_store _ _ _ _ _ rfl
  obtain ⟨A, ca, B, cb, N, cn, L, cl, rfl, _⟩ := id h.open
  obtain ⟨I, ci, rfl, -, -, -, hI⟩ := id hu.open
  obtain ⟨lw, hlw⟩ : ∃ q, n.1 = q := ⟨_, rfl⟩
  obtain ⟨m, hlm⟩ : ∃ q, n.2.length = q := ⟨_, rfl⟩
  have hlv : 0 ≤ lw := by rw [← hlw]; exact (mayN_of hn).1.1
  have hst : standsN s n = (decide (m = 0) || (spanN s n).isSome) := by rw [standsN, hlm]
  have hu' := hu
  rw [hlw, hlm] at hu'
  rw [hlw, hlm, hst]
  clear hI hst
  have HG0 : Bag w [OldN (.agg #[.int .i64 lw, .slice I m ci]) n, OldR (.agg #[.slice A s.1.1.length ca, .slice B s.1.2.length cb, .slice N s.2.1.length cn, .slice L s.2.2.length cl]) s] := ((Bag.nil w).add (F := OldR _ s) h (lasts_oldR _ _)).add (F := OldN _ n) hu' (lasts_oldN _ _)
  obtain ⟨w0, hw0, hg0, hB0, _, hs0⟩ := bag_four HG0 (Below.refl _ _) (.slice A s.1.1.length ca) (.slice B s.1.2.length cb) (.slice N s.2.1.length cn) (.slice L s.2.2.length cl) 29
  obtain ⟨w1, hw1, hg1, hB1, _, hs1⟩ := bag_node hg0 (Below.refl _ _) (.int .i64 lw) (.slice I m ci)
  obtain ⟨w2, hw2, q0, hs2, hB2⟩ := box_one w1 (cloE w.heap.size w1.heap.size) 115
  have HG := Lib.hid ((hg1.below hB2).add (F := BoxF w1.heap.size (cloE w.heap.size w1.heap.size)) ⟨q0, by omega⟩ (lasts_boxF _ _))
  have BB := Lib.hid ((hB0.trans (hB1.mono hB0.size)).trans (hB2.mono (hB0.trans (hB1.mono hB0.size)).size))
  replace hs2 := Lib.hid hs2
  replace hs1 := Lib.hid hs1
  replace hs0 := Lib.hid hs0
  replace hlw := Lib.hid hlw
  replace hlm := Lib.hid hlm
  clear HG0 hg1 hg0 h hu hu' hB2 hB1 hB0 q0
  go_enter Tryz.func33, Tryz.ntmps33
  go_upto_region 3 with fail
  clear hw0 hw1 hw2
  obtain ⟨q0, _⟩ := HG.out.at 0 rfl
  obtain ⟨y0, y1, _⟩ := HG.out.at 1 rfl
  by_cases hm0 : m = 0
  · have c0 : ((m : Int) == 0) = true := by simp [hm0]
    have hf : Hid ((decide (m = 0) || (spanN s n).isSome) = true) := Lib.hid (by simp [hm0])
    replace hm0 := Lib.hid hm0
    go_wp2_with fail
    go_ret
    exact ⟨ret_bool hf.out.symm, BB.out⟩
  have c0 : ((m : Int) == 0) = false := by simpa using hm0
  have hf : Hid ((decide (m = 0) || (spanN s n).isSome) = (spanN s n).isSome) := Lib.hid (by simp [hm0])
  have hcall := Lib.hid (ends_any s hm lw.toNat (.agg #[.int .i64 lw, .slice I m ci]) _ _ _ _ n w.heap.size w1.heap.size w2 hn (by rw [hlw.out]; omega) (by rw [hlm.out]; exact hm0) (HG.out.at 3 rfl) (HG.out.at 4 rfl) (HG.out.at 2 rfl) (HG.out.at 0 rfl))
  replace hm0 := Lib.hid hm0
  go_wp2_with fail
  with_reducible refine hcall.out.mono ?_
  rintro e w3 ⟨f, t, ok, rfl, hsp, hb3⟩
  have B3 := Lib.hid (BB.out.trans (hb3.mono BB.out.size))
  obtain ⟨w4, hw4, p0, p1, p2, hs4, hB4, _⟩ := box_three w3 (.int .u8 (f.1.toNat : Int)) (.int .u32 f.2.1) (.int .u32 f.2.2) 37
  obtain ⟨w5, hw5, r0, r1, r2, hs5, hB5, _⟩ := box_three w4 (.int .u8 (t.1.toNat : Int)) (.int .u32 t.2.1) (.int .u32 t.2.2) 37
  have B5 := Lib.hid (B3.out.trans ((hB4.trans (hB5.mono hB4.size)).mono B3.out.size))
  have hfin : Hid ((spanN s n).isSome = ok) := Lib.hid (by rw [hsp]; cases ok <;> rfl)
  replace hsp := Lib.hid hsp
  replace hs5 := Lib.hid hs5
  clear hB4 hB5 hb3 p0 p1 p2 r0 r1 r2
  go_upto_region 6 with fail
  clear hw4 hw5
  go_wp2_with fail
  go_ret
  exact ⟨ret_bool (by rw [hf.out, hfin.out]), B5.out⟩

set_option maxRecDepth 100000 in
set_option maxHeartbeats 8000000 in
theorem findCheck_any (v : Value) (s : Rm) (a : Int) (w : World) (h : Sto (Old w) w v s) :
    Calls Tryz.prog 14 #[v, .int .i64 a] w fun e w' => e = .returned (.tuple #[.int .i64 (ckH s a), .int .i64 (ckE s a)]) ∧ Below w.heap.size w w' := by
  obtain ⟨A, ca, B, cb, N, cn, L, cl, rfl, _⟩ := id h.open
  have hNd := Lib.hid (fun v W hW => nodeR_open v s a W hW)
  have hway : Hid ((rmE s a ≠ 0 ∧ ckE s a = rmE s a ∧ ckH s a = 0) ∨ (rmE s a = 0 ∧ mayR s = true ∧ mayN (rmV s a) = true ∧ 0 ≤ (rmV s a).1 ∧ (rmV s a).1 < 6 ∧ standsN s (rmV s a) = false ∧ ckE s a = 8 ∧ ckH s a = 0) ∨
      (rmE s a = 0 ∧ mayR s = true ∧ mayN (rmV s a) = true ∧ 0 ≤ (rmV s a).1 ∧ (rmV s a).1 < 6 ∧ standsN s (rmV s a) = true ∧ ckE s a = 0 ∧ ckH s a = (rmV s a).1 + 1)) := Lib.hid (by
    by_cases ha : asE s a = 0
    · by_cases hr : rmE s a = 0
      · obtain ⟨hmn, _⟩ := rm_may hr
        have hst := stands_tree hr
        obtain ⟨k, _, hm, _⟩ := as_read ha
        have hsh := (mayN_of hmn).1
        cases ht : treeO s a with
        | false => exact .inr (.inl ⟨hr, hm, hmn, hsh.1, hsh.2.1, hst.trans ht, (ck_bad ha ht).1, (ck_bad ha ht).2⟩)
        | true => exact .inr (.inr ⟨hr, hm, hmn, hsh.1, hsh.2.1, hst.trans ht, (ck_ok ha ht).1, (ck_ok ha ht).2⟩)
      · obtain ⟨k, _, hm, _, h256, _, _, hE, _, _⟩ := as_read ha
        have h8 : rmE s a = 8 := by
          rw [hE] at hr ⊢
          exact reN_eight (seen_128 (mayR_of hm).1 h256) hr
        obtain ⟨h1, h2⟩ := ck_bad ha (tree_no hr)
        exact .inl ⟨hr, h1.trans h8.symm, h2⟩
    · obtain ⟨hE, _⟩ := rm_bad ha
      obtain ⟨h1, h2⟩ := ck_no ha
      exact .inl ⟨by rw [hE]; exact ha, h1.trans hE.symm, h2⟩)
  obtain ⟨nd, hnd⟩ : ∃ q, rmV s a = q := ⟨_, rfl⟩
  obtain ⟨E0, hE0⟩ : ∃ q, rmE s a = q := ⟨_, rfl⟩
  obtain ⟨cE, hcE⟩ : ∃ q, ckE s a = q := ⟨_, rfl⟩
  obtain ⟨cH, hcH⟩ : ∃ q, ckH s a = q := ⟨_, rfl⟩
  rw [hnd, hE0] at hNd hway
  rw [hcE, hcH] at hway ⊢
  obtain ⟨lw, hlw⟩ : ∃ q, nd.1 = q := ⟨_, rfl⟩
  obtain ⟨m, hlm⟩ : ∃ q, nd.2.length = q := ⟨_, rfl⟩
  rw [hlw, hlm] at hNd
  rw [hlw] at hway
  have HG0 : Bag w [OldR (.agg #[.slice A s.1.1.length ca, .slice B s.1.2.length cb, .slice N s.2.1.length cn, .slice L s.2.2.length cl]) s] := (Bag.nil w).add (F := OldR _ s) h (lasts_oldR _ _)
  obtain ⟨w0, hw0, hg0, hB0, _, hs0⟩ := bag_four HG0 (Below.refl _ _) (.slice A s.1.1.length ca) (.slice B s.1.2.length cb) (.slice N s.2.1.length cn) (.slice L s.2.2.length cl) 29
  have HG := Lib.hid hg0
  have BB := Lib.hid hB0
  obtain ⟨s0, s1, s2, s3, _⟩ := HG.out.at 0 rfl
  replace hs0 := Lib.hid hs0
  replace hnd := Lib.hid hnd
  replace hE0 := Lib.hid hE0
  replace hcE := Lib.hid hcE
  replace hcH := Lib.hid hcH
  replace hlw := Lib.hid hlw
  replace hlm := Lib.hid hlm
  clear HG0 hg0 h hB0
  go_enter Tryz.func14, Tryz.ntmps14
  go_upto_region 1 with fail
  clear hw0
  go_wp2_with fail
  with_reducible refine (hNd.out _ _ (HG.out.at 1 rfl)).mono ?_
  rintro e w3 ⟨Z, zc, rfl, -, h3n, hb3⟩
  obtain ⟨w4, hw4, hg4, hb4, -, hs4⟩ := bag_node ((HG.out.below hb3).add (F := OldN _ nd) h3n.drop (lasts_oldN _ _)) (Below.refl _ _) (.int .i64 lw) (.slice Z m zc)
  replace HG := Lib.hid hg4
  replace BB := Lib.hid (BB.out.trans ((hb3.trans (hb4.mono hb3.size)).mono BB.out.size))
  replace hs4 := Lib.hid hs4
  clear hg4 hb4 hb3 h3n s0 s1 s2 s3 hNd
  go_upto_region 2 with fail
  clear hw4
  rcases hway.out with ⟨he, h1, h2⟩ | ⟨he, hm, hmn, l0, l6, hst, h1, h2⟩ | ⟨he, hm, hmn, l0, l6, hst, h1, h2⟩
  · have e1 : (E0 != 0) = true := by simpa using he
    replace h1 := Lib.hid h1
    replace h2 := Lib.hid h2
    clear he hway
    go_wp2_with fail
    go_ret2
    exact ⟨by rw [h1.out, h2.out]; rfl, BB.out⟩
  · have hcall := Lib.hid (stands_any _ _ s hm nd hmn w4 (HG.out.at 3 rfl) (HG.out.at 1 rfl))
    rw [hst] at hcall
    subst he
    obtain ⟨y0, y1, _⟩ := HG.out.at 0 rfl
    obtain ⟨s0, s1, s2, s3, _⟩ := HG.out.at 2 rfl
    replace h1 := Lib.hid h1
    replace h2 := Lib.hid h2
    clear hway hst hm hmn l0 l6
    go_wp2_with fail
    with_reducible refine hcall.out.mono ?_
    rintro e w5 ⟨rfl, hb5⟩
    have B5 := Lib.hid (BB.out.trans (hb5.mono BB.out.size))
    clear hb5
    go_wp2_with fail
    go_ret2
    exact ⟨by rw [h1.out, h2.out]; rfl, B5.out⟩
  · have hcall := Lib.hid (stands_any _ _ s hm nd hmn w4 (HG.out.at 3 rfl) (HG.out.at 1 rfl))
    rw [hst] at hcall
    subst he
    obtain ⟨y0, y1, _⟩ := HG.out.at 0 rfl
    obtain ⟨s0, s1, s2, s3, _⟩ := HG.out.at 2 rfl
    have i9 : IntKind.i64.wrap (lw + 1) = lw + 1 := IntWalk.i64_in _ (by omega)
    replace h1 := Lib.hid h1
    replace h2 := Lib.hid h2
    clear hway hst hm hmn l0 l6
    go_wp2_with fail
    with_reducible refine hcall.out.mono ?_
    rintro e w5 ⟨rfl, hb5⟩
    have B5 := Lib.hid (BB.out.trans (hb5.mono BB.out.size))
    have HG5 := HG.out.below hb5
    clear hb5 y0 y1
    obtain ⟨y0, y1, _⟩ := HG5.at 0 rfl
    clear HG5
    go_wp2_with fail
    go_ret2
    exact ⟨by rw [h1.out, h2.out]; rfl, B5.out⟩
end Go.Proofs.YtogieepfimpdmaaGreat

/-
  Package put: would a step's way part? Conditions: those that each lemma states.
-/
namespace Go.Proofs.YtogieepfimpdmaaGreat
open Go.RowKit Go.Shelf
attribute [local go_sem] Oper.semAt_some

def lenS (q : Sv) (many : Nat) : Nat := many + q.nd.2.length - (if q.inst = true then 1 else 0)
def partF : List Sv → Nat → Bool
  | [], _ => true
  | q :: r, many => if lenS q many ≤ 5 then false else partF r 2
theorem partF_step {l : List Sv} {k many : Nat} {q : Sv} (h : l[k]? = some q) : partF (l.drop k) many = if lenS q many ≤ 5 then false else partF (l.drop (k + 1)) 2 := by
  obtain ⟨hl, e⟩ := List.getElem?_eq_some_iff.1 h
  rw [List.drop_eq_getElem_cons hl, e]
  rfl
def svZ : Sv := ⟨(0, []), 0, false, none, 0, 0, 0⟩
theorem svs_at {l : List Sv} {i : Nat} {x : Sv} (h : l[i]? = some x) : ∀ j u, (svV x)[j]? = some u → (svs l)[i * 4 + j]? = some u := by
  induction l generalizing i with
  | nil => simp at h
  | cons y l ih =>
    intro j u hj
    have hj4 : j < 4 := (List.getElem?_eq_some_iff.1 hj).1
    cases i with
    | zero =>
      simp at h
      subst h
      show (svV y ++ svs l)[0 * 4 + j]? = _
      rw [List.getElem?_append_left (by show 0 * 4 + j < 4; omega), Nat.zero_mul, Nat.zero_add]
      exact hj
    | succ i =>
      show (svV y ++ svs l)[(i + 1) * 4 + j]? = _
      rw [List.getElem?_append_right (by show 4 ≤ _; omega), show (i + 1) * 4 + j - (svV y).length = i * 4 + j by show _ - 4 = _; omega]
      exact ih (by simpa using h) j u hj
/-- The cells of a row of steps. -/
theorem steps_at {w : World} {lo c : Nat} {A : Option Addr} {l : List Sv} (h : w.ownsRow lo 94 4 (.slice A l.length c) l.length (svs l)) : ∃ ad : Addr, (0 < l.length → A = some ad ∧ lo ≤ ad.block ∧ ad.block < w.heap.size) ∧ ∀ j, j < l.length → At4 w (ad.add (j * 4)) (l[j]?.getD svZ) := by
  rcases Nat.eq_zero_or_pos l.length with h0 | h0
  · exact ⟨⟨0, 0, none⟩, fun h => by omega, fun j hj => by omega⟩
  rcases h.2 with ⟨_, e⟩ | ⟨g, cap, cur, e, hb, hg, _⟩
  · omega
  · cases e
    refine ⟨⟨g, 0, none⟩, fun _ => ⟨rfl, hb, (Array.getElem?_eq_some_iff.1 hg).1⟩, fun j hj => ?_⟩
    have hx : l[j]? = some l[j] := List.getElem?_eq_getElem hj
    have hc := fun i u hu => h.cells (g := g) rfl _ u (svs_at hx i u hu)
    rw [hx]
    have e0 := hc 0 _ rfl
    have e1 := hc 1 _ rfl
    have e2 := hc 2 _ rfl
    have e3 := hc 3 _ rfl
    rw [add_off, Nat.zero_add] at e0 e1 e2 e3
    rw [add_off, Nat.zero_add]
    exact ⟨e0, e1, e2, e3⟩

def PaI (n0 : World) (b1 b2 lo' : Nat) (l : List Sv) (r : List Nat × Option Nat) (V : World) : Prop :=
  r.2 = none ∧ (Below n0.heap.size n0 V ∧ lo' ≤ V.heap.size) ∧ BoxW b1 #[.bool false] 4 V ∧ ∃ many : Nat, 1 ≤ many ∧ many ≤ 2 ∧ BoxW b2 #[.int .i64 (many : Int)] 3 V ∧ partF l.reverse 1 = partF (l.reverse.drop r.1.length) many
def PaX (n0 : World) (b1 lo' : Nat) (l : List Sv) (c : Code) (r : List Nat × Option Nat) (V : World) : Prop :=
  c = .ret ∧ r.2 = none ∧ (Below n0.heap.size n0 V ∧ lo' ≤ V.heap.size) ∧ BoxW b1 #[.bool false] 4 V ∧ partF l.reverse 1 = false
theorem paI_own {n0 : World} {b1 b2 lo' : Nat} {l : List Sv} {B : Nat} (hB : n0.heap.size ≤ B) : OwnFrom B (PaI n0 b1 b2 lo' l) := fun r V V' row hs hg hr => by
  obtain ⟨h0, ⟨h1, h2⟩, h3, many, m1, m2, h4, h5⟩ := hs
  have hn := fun r e => (hr r e).2
  exact ⟨h0, ⟨ownFrom_below (Nat.le_refl _) hB () V V' row h1 hg hr, Nat.le_trans h2 hg.size⟩, block_kept h3 hg hn, many, m1, m2, block_kept h4 hg hn, h5⟩
theorem paX_own {n0 : World} {b1 lo' : Nat} {l : List Sv} {c : Code} {B : Nat} (hB : n0.heap.size ≤ B) : OwnFrom B (PaX n0 b1 lo' l c) := fun r V V' row hs hg hr => by
  obtain ⟨hc, h0, ⟨h1, h2⟩, h3, h5⟩ := hs
  have hn := fun r e => (hr r e).2
  exact ⟨hc, h0, ⟨ownFrom_below (Nat.le_refl _) hB () V V' row h1 hg hr, Nat.le_trans h2 hg.size⟩, block_kept h3 hg hn, h5⟩

set_option maxRecDepth 100000 in
set_option maxHeartbeats 8000000 in
theorem parts_any (A : Option Addr) (m c : Nat) (l : List Sv) (lo : Nat) (w : World) (h : w.ownsRow lo 94 4 (.slice A m c) m (svs l)) (hl : l.length = m) (hm : m ≤ 100) (h5 : ∀ q ∈ l, q.nd.2.length ≤ 5) :
    Calls Tryz.prog 26 #[.slice A m c] w fun e w' => e = .returned (.bool (partF l.reverse 1)) ∧ Below w.heap.size w w' := by
  obtain ⟨ad, had, hat⟩ := steps_at (by rw [hl]; exact h)
  rw [hl] at had hat
  obtain ⟨f, hf⟩ : ∃ f : Nat → Sv, f = fun j => l[j]?.getD svZ := ⟨_, rfl⟩
  have hff : Hid (∀ k, k < m → l.reverse[k]? = some (f (m - 1 - k)) ∧ (f (m - 1 - k)).nd.2.length ≤ 5) := Lib.hid fun k hk => by
    have e : l.reverse[k]? = some l[m - 1 - k] := by
      rw [List.getElem?_reverse (by omega), show l.length - 1 - k = m - 1 - k by omega]
      exact List.getElem?_eq_getElem _
    have e2 : f (m - 1 - k) = l[m - 1 - k] := by
      rw [hf]
      simp [List.getElem?_eq_getElem (show m - 1 - k < l.length by omega)]
    rw [e2]
    exact ⟨e, h5 _ (List.getElem_mem _)⟩
  obtain ⟨w1, hw1, b1, hs1, hB1⟩ : ∃ w1, w.alloc (.cells #[.bool false] 4) = w1 ∧ BoxW w.heap.size #[.bool false] 4 w1 ∧ w1.heap.size = w.heap.size + 1 ∧ Below w.heap.size w w1 := ⟨_, rfl, heap_alloc_new w _, by simp, (Below.refl _ _).alloc (Nat.le_refl _) _⟩
  obtain ⟨w2, hw2, b2, hs2, hB2⟩ : ∃ w2, w1.alloc (.cells #[.int .i64 1] 3) = w2 ∧ BoxW w1.heap.size #[.int .i64 1] 3 w2 ∧ w2.heap.size = w1.heap.size + 1 ∧ Below w1.heap.size w1 w2 := ⟨_, rfl, heap_alloc_new w1 _, by simp, (Below.refl _ _).alloc (Nat.le_refl _) _⟩
  obtain ⟨w3, hw3, b3, hs3, hB3⟩ := box_one w2 (.slice A m c) 65
  have hbw := Lib.hid (backwardS_any A m c w2)
  rw [hw3] at hbw
  have hB23 := hB2.trans (hB3.mono hB2.size)
  have B3 := Lib.hid (hB1.trans (hB23.mono hB1.size))
  have B31 := Lib.hid (show BoxW w.heap.size #[.bool false] 4 w3 from lasts_boxW _ _ _ _ _ b1 hB23)
  have B32 := Lib.hid (show BoxW w1.heap.size #[.int .i64 1] 3 w3 from lasts_boxW _ _ _ _ _ b2 hB3)
  have SZ := Lib.hid (show w1.heap.size = w.heap.size + 1 ∧ w2.heap.size = w.heap.size + 2 ∧ w3.heap.size = w.heap.size + 3 from ⟨hs1, by omega, by omega⟩)
  have htold := backS_told w2.heap.size c m A ad f w3 b3 (fun h => ⟨(had h).1, Nat.lt_of_lt_of_le (had h).2.2 B3.out.size⟩) (by omega) (fun j hj => by rw [hf]; exact (hat j hj).same (B3.out.block _ (by rw [add_block]; exact (had (by omega)).2.2)))
  have hlt := Lib.hid (fun h : 0 < m => (had h).2.2)
  have hI0 : PaI w w.heap.size w1.heap.size w3.heap.size l ([], none) w3 := ⟨rfl, ⟨B3.out, Nat.le_refl _⟩, B31.out, 1, by omega, by omega, B32.out, rfl⟩
  replace hf := Lib.hid hf
  replace hl := Lib.hid hl
  replace hs1 := Lib.hid hs1
  replace hs2 := Lib.hid hs2
  replace hs3 := Lib.hid hs3
  clear h had hat b1 b2 b3 hB1 hB2 hB3 hB23 h5 hw3
  refine callsIn_wide.1 (callsIn_of_wp_marks (n := 5) Tryz.func26 rfl trivial ?_ rfl)
  simp only [Tryz.ntmps26, List.size_toArray, List.length_cons, List.length_nil, Nat.reduceAdd, Nat.reduceSub, Array.replicate_succ, Array.replicate_zero, List.push_toArray, List.append_toArray, List.nil_append, List.cons_append]
  gi_wp2_with fail
  refine ⟨trivial, ?_⟩
  gi_at_call 45
  refine (callsIn_wide.2 hbw.out).mono ?_
  rintro e w3 ⟨rfl, rfl⟩
  gi_wp2_with fail
  refine range_told (m := 5) (gf := 67) (lb := #[.pointer (some ⟨w2.heap.size, 0, none⟩)]) rfl (enters_of Tryz.func67 (by kernel_rfl) rfl) htold (fun _ => rfl) (fun k => k = w.heap.size ∨ k = w1.heap.size) (fun k e => by have := SZ.out; omega) none (fun k hk => by
      rcases hk with rfl | ⟨h0, rfl⟩
      · exact ⟨by have := SZ.out; omega, by have := SZ.out; omega, by simp⟩
      · have := hlt.out h0
        exact ⟨by have := SZ.out; omega, by have := SZ.out; omega, by simp⟩)
    (PaI w w.heap.size w1.heap.size w3.heap.size l) (PaX w w.heap.size w3.heap.size l)
    (paI_own (by have := SZ.out; omega)) (fun c => paX_own (by have := SZ.out; omega))
    (fun r V hr k e => by rw [hr.1] at e; cases e) hI0
    (fun x a' V => ∃ g : Nat, a' = { tmps := #[.slice A m c, undef, .pointer (some ⟨w.heap.size, 0, none⟩), .pointer (some ⟨w1.heap.size, 0, none⟩), undef, .pointer (some ⟨g, 0, none⟩), .slice A m c, .func (.func 67) #[] #[.pointer (some ⟨w2.heap.size, 0, none⟩)], .int .i64 (x : Int), .agg #[.int .i64 (f x).nd.1, .slice (f x).A (f x).nd.2.length (f x).c, .int .i64 ((f x).pl : Int), .bool (f x).inst],
        undef, undef, undef, undef, undef, undef, undef, undef, undef, undef, undef, undef], defers := [] } ∧ BoxW g #[.int .i64 (f x).nd.1, .slice (f x).A (f x).nd.2.length (f x).c, .int .i64 ((f x).pl : Int), .bool (f x).inst] 94 V)
    (fun y a' _ A B row hs hg hr => by
      obtain ⟨g, e1, h0⟩ := hs
      exact ⟨g, e1, block_kept h0 hg fun r e => (hr r e).2⟩)
    (fun pre x q => fun _ _ _ _ hs _ _ => hs) ?assign ?body ?done ?stop
  case assign =>
    rintro l' pre' q' x V K hi hT hK
    obtain ⟨V1, hV1, bV, hVs, hVB⟩ := box_4 V (.int .i64 (f x).nd.1) (.slice (f x).A (f x).nd.2.length (f x).c) (.int .i64 ((f x).pl : Int)) (.bool (f x).inst) 94
    replace hVs := Lib.hid hVs
    clear hi hI0 hT
    simp only [encS]
    gi_wp2_with fail
    exact hK _ _ (below_grown hVB) ⟨V.heap.size, rfl, bV⟩
  case body =>
    rintro l' pre' q' x a' V hVs hI ⟨g, rfl, hg⟩ ⟨hp1, hp2, hp3⟩
    obtain ⟨hq, ⟨hIb, hIs⟩, hB1, many, hm1, hm2, hB2, hpf⟩ := hI
    dsimp only at hq
    subst hq
    have hk : pre'.length < m := hp2
    clear hp1
    obtain ⟨hrv, hl5⟩ := hff.out _ hk
    rw [← hp3] at hrv hl5
    clear hp3
    have hst := partF_step (many := many) hrv
    have hpl : (pre' ++ [x]).length = pre'.length + 1 := by rw [List.length_append]; rfl
    obtain ⟨g0, g1, g2, g3, gf, gl⟩ := four_cells hg
    obtain ⟨m0, mf, ml⟩ := one_cell hB2
    generalize f x = q at *
    obtain ⟨n, hn⟩ : ∃ n, q.nd.2.length = n := ⟨_, rfl⟩
    have hls : lenS q many = many + n - (if q.inst = true then 1 else 0) := by unfold lenS; rw [hn]
    rw [hn] at g1 hl5 ⊢
    generalize q.nd.1 = q1 at *
    generalize q.A = q2 at *
    generalize q.c = q4 at *
    generalize (q.pl : Int) = q5 at *
    have hw1' : IntKind.i64.wrap ((many : Int) + (n : Int)) = (many : Int) + (n : Int) := by rw [IntKind.wrap_i64]; omega
    have hw2' : IntKind.i64.wrap ((many : Int) + (n : Int) - 1) = (many : Int) + (n : Int) - 1 := by rw [IntKind.wrap_i64]; omega
    obtain ⟨V1, hV1, h1, gr1, hs1'⟩ := put_one (u := .int .i64 ((many : Int) + (n : Int))) hB2
    have hne : g ≠ w1.heap.size := fun e => by
      subst e
      unfold BoxW at hg hB2
      rw [hg] at hB2
      simp at hB2
    have g3' : V1.cell? ⟨g, 3, none⟩ = some (.bool q.inst) := (World.cell?_of_block (a := ⟨g, 3, none⟩) (gr1.block g gl (by simpa using hne))).trans g3
    obtain ⟨u0, uf, ul⟩ := one_cell h1
    have hB11 : BoxW w.heap.size #[.bool false] 4 V1 := (gr1.block _ (Array.getElem?_eq_some_iff.1 hB1).1 (by have := SZ.out; intro e; have := Option.some.inj e; omega)).trans hB1
    have hb1 := hIb.grown gr1 (by have := hIs; have := SZ.out; omega) (fun k e => by cases e; have := SZ.out; omega)
    have hs1 : w3.heap.size ≤ V1.heap.size := by omega
    have kp1 : Kept (fun k => k = w.heap.size ∨ k = w1.heap.size) none none V V1 := (Kept.refl _ _ _).grown gr1 fun r e => by cases e; exact .inr (.inr rfl)
    -- the two ways out
    have hfin : ∀ (t : Int) (V2 : World), V2.heap[w1.heap.size]? = some (.cells #[.int .i64 t] 3 (0, 0)) → BoxW w.heap.size #[.bool false] 4 V2 → Below w.heap.size w V2 → w3.heap.size ≤ V2.heap.size → Kept (fun k => k = w.heap.size ∨ k = w1.heap.size) none none V V2 → t = (lenS q many : Nat) →
        (t ≤ 5 → ∃ V3, V2.setCell ⟨w.heap.size, 0, none⟩ (.bool false) = V3 ∧ V2.cell? ⟨w.heap.size, 0, none⟩ = some (.bool false) ∧ V2.frozen? ⟨w.heap.size, 0, none⟩ = false ∧ (∃ q', Kept (fun k => k = w.heap.size ∨ k = w1.heap.size) none q' V V3 ∧ PaX w w.heap.size w3.heap.size l .ret (pre' ++ [x], q') V3)) ∧
        (¬ t ≤ 5 → ∃ V3, V2.setCell ⟨w1.heap.size, 0, none⟩ (.int .i64 2) = V3 ∧ (∃ q', Kept (fun k => k = w.heap.size ∨ k = w1.heap.size) none q' V V3 ∧ PaI w w.heap.size w1.heap.size w3.heap.size l (pre' ++ [x], q') V3)) := fun t V2 c1 c2 c3 c4 c5 c6 => by
      refine ⟨fun h5 => ?_, fun h5 => ?_⟩
      · obtain ⟨V3, e3, d1, d2, d3⟩ := put_one (u := .bool false) c2
        obtain ⟨y0, yf, _⟩ := one_cell c2
        exact ⟨V3, e3, y0, yf, none, c5.grown d2 (fun r e => by cases e; exact .inr (.inl rfl)), rfl, rfl, ⟨c3.grown d2 (by have := SZ.out; omega) (fun k e => by cases e; exact Nat.le_refl _), by omega⟩, d1, by rw [hpf, hst, if_pos (by omega)]⟩
      · obtain ⟨V3, e3, d1, d2, d3⟩ := put_one (u := .int .i64 2) c1
        exact ⟨V3, e3, none, c5.grown d2 (fun r e => by cases e; exact .inr (.inr rfl)), rfl, ⟨c3.grown d2 (by have := SZ.out; omega) (fun k e => by cases e; have := SZ.out; omega), by omega⟩, (d2.block _ (Array.getElem?_eq_some_iff.1 c2).1 (by have := SZ.out; intro e; have := Option.some.inj e; omega)).trans c2, 2, by omega, by omega, d1, by rw [hpf, hst, if_neg (by omega), hpl]⟩
    cases hins : q.inst with
    | true =>
      rw [hins] at g3' hls
      rw [if_pos rfl] at hls
      obtain ⟨V2, hV2, h2, gr2, hs2'⟩ := put_one (u := .int .i64 ((many : Int) + (n : Int) - 1)) h1
      obtain ⟨x0, xf, _⟩ := one_cell h2
      have hB12 : BoxW w.heap.size #[.bool false] 4 V2 := (gr2.block _ (Array.getElem?_eq_some_iff.1 hB11).1 (by have := SZ.out; intro e; have := Option.some.inj e; omega)).trans hB11
      obtain ⟨f1, f2⟩ := hfin ((many : Int) + (n : Int) - 1) V2 h2 hB12 (hb1.grown gr2 (by have := SZ.out; omega) (fun k e => by cases e; have := SZ.out; omega)) (by omega) (kp1.grown gr2 fun r e => by cases e; exact .inr (.inr rfl)) (by rw [hls]; omega)
      clear hfin hst hI0 hpf
      by_cases h5 : (many : Int) + (n : Int) - 1 ≤ 5
      · obtain ⟨V3, e3, y0, yf, q', hq1, hq2⟩ := f1 h5
        replace hq1 := Lib.hid hq1
        replace hq2 := Lib.hid hq2
        clear f1 f2
        gi_wp2_with fail
        exact ⟨q', hq1.out, hq2.out⟩
      · obtain ⟨V3, e3, q', hq1, hq2⟩ := f2 h5
        replace hq1 := Lib.hid hq1
        replace hq2 := Lib.hid hq2
        clear f1 f2
        gi_wp2_with fail
        exact ⟨q', hq1.out, hq2.out⟩
    | false =>
      rw [hins] at g3' hls
      rw [if_neg (by decide), Nat.sub_zero] at hls
      obtain ⟨f1, f2⟩ := hfin ((many : Int) + (n : Int)) V1 h1 hB11 hb1 hs1 kp1 (by rw [hls]; omega)
      clear hfin hst hI0 hpf
      by_cases h5 : (many : Int) + (n : Int) ≤ 5
      · obtain ⟨V3, e3, y0, yf, q', hq1, hq2⟩ := f1 h5
        replace hq1 := Lib.hid hq1
        replace hq2 := Lib.hid hq2
        clear f1 f2
        gi_wp2_with fail
        exact ⟨q', hq1.out, hq2.out⟩
      · obtain ⟨V3, e3, q', hq1, hq2⟩ := f2 h5
        replace hq1 := Lib.hid hq1
        replace hq2 := Lib.hid hq2
        clear f1 f2
        gi_wp2_with fail
        exact ⟨q', hq1.out, hq2.out⟩
  case done =>
    rintro xs q' V hVs rfl ⟨_, ⟨hb, hs⟩, hB1, many, _, _, _, hpf⟩ hDV hqV
    have hpt : Hid (partF l.reverse 1 = true) := Lib.hid (by
      rw [hpf, downs_length, List.drop_of_length_le (by rw [List.length_reverse, hl.out]; exact Nat.le_refl _)]
      rfl)
    obtain ⟨V3, hV3, h3, gr3, hs3'⟩ := put_one (u := .bool true) hB1
    obtain ⟨m0, mf, ml⟩ := one_cell hB1
    have hD1 := Lib.hid ((gr3.block _ (Array.getElem?_eq_some_iff.1 hDV).1 (by have := SZ.out; intro e; have := Option.some.inj e; omega)).trans hDV)
    have hb3 := Lib.hid (hb.grown gr3 (by have := SZ.out; omega) (fun k e => by cases e; exact Nat.le_refl _))
    have h3h := Lib.hid h3
    clear hpf hI0 hDV hB1 h3 gr3 hqV hb
    gi_wp2_with fail
    refine ⟨by simp, .inl ⟨_, _, rfl, run_takeDeferred hD1.out, ?_⟩⟩
    have hgp := grownBy_putObj' V3 w3.heap.size (.deferred none)
    have hnp : ∀ r, some w3.heap.size = some r → ∃ o : Obj, V3.heap[r]? = some o ∧ o.isCells = false := fun r e => by cases e; exact ⟨_, hD1.out, rfl⟩
    have h9 := block_kept h3h.out hgp hnp
    obtain ⟨n0, _, _⟩ := one_cell h9
    exact ⟨.bool true, by simp [results, Tryz.f26, go_sem, n0], by rw [hpt.out], hb3.out.grown hgp (by have := hb3.out.size; omega) (fun k e => by cases e; have := SZ.out; omega)⟩
  case stop =>
    rintro c pre' q' V hVs ⟨rfl, _, ⟨hb, hs⟩, hB1, hpf⟩ hDV hqV
    have hD1 := Lib.hid hDV
    have hb3 := Lib.hid hb
    have h3h := Lib.hid hB1
    have hpt := Lib.hid hpf
    clear hpf hI0 hDV hB1 hqV hb
    gi_wp2_with fail
    refine ⟨by simp, .inl ⟨_, _, rfl, run_takeDeferred hD1.out, ?_⟩⟩
    have hgp := grownBy_putObj' V w3.heap.size (.deferred none)
    have hnp : ∀ r, some w3.heap.size = some r → ∃ o : Obj, V.heap[r]? = some o ∧ o.isCells = false := fun r e => by cases e; exact ⟨_, hD1.out, rfl⟩
    have h9 := block_kept h3h.out hgp hnp
    obtain ⟨n0, _, _⟩ := one_cell h9
    exact ⟨.bool false, by simp [results, Tryz.f26, go_sem, n0], by rw [hpt.out], hb3.out.grown hgp (by have := hb3.out.size; omega) (fun k e => by cases e; have := SZ.out; omega)⟩
end Go.Proofs.YtogieepfimpdmaaGreat

/-
  Package put: new nodes made along a way. Conditions: those that each lemma states.
-/
namespace Go.Proofs.YtogieepfimpdmaaGreat
open Go.RowKit Go.Shelf
attribute [local go_sem] Oper.semAt_some

/-! ### Plain -/
def itemsS (q : Sv) (F : List It) : List It := q.nd.2.take q.pl ++ (F ++ q.nd.2.drop (q.pl + if q.inst = true then 1 else 0))
noncomputable def growA : List Sv → Rm → List It → Int × Rm × List It
  | [], s, F => (0, s, F)
  | q :: r, s, F => if (layO s q.nd.1 (itemsS q F) F).1 = 0 then growA r (layO s q.nd.1 (itemsS q F) F).2.1 (layO s q.nd.1 (itemsS q F) F).2.2 else ((layO s q.nd.1 (itemsS q F) F).1, emptyR, [])
theorem growA_step {l : List Sv} {k : Nat} {q : Sv} {s : Rm} {F : List It} (h : l[k]? = some q) : growA (l.drop k) s F = if (layO s q.nd.1 (itemsS q F) F).1 = 0 then growA (l.drop (k + 1)) (layO s q.nd.1 (itemsS q F) F).2.1 (layO s q.nd.1 (itemsS q F) F).2.2 else ((layO s q.nd.1 (itemsS q F) F).1, emptyR, []) := by
  obtain ⟨hl, e⟩ := List.getElem?_eq_some_iff.1 h
  rw [List.drop_eq_getElem_cons hl, e]
  rfl
noncomputable def growO (s : Rm) (l : List Sv) (x : It) : Int × Rm × Int :=
  if (growA l.reverse s [x]).1 = 0 then
    (if 1 < (growA l.reverse s [x]).2.2.length then
      (if (layO (growA l.reverse s [x]).2.1 (l.length : Nat) (growA l.reverse s [x]).2.2 (growA l.reverse s [x]).2.2).1 = 0 then
        (0, (layO (growA l.reverse s [x]).2.1 (l.length : Nat) (growA l.reverse s [x]).2.2 (growA l.reverse s [x]).2.2).2.1, nowL (layO (growA l.reverse s [x]).2.1 (l.length : Nat) (growA l.reverse s [x]).2.2 (growA l.reverse s [x]).2.2).2.2)
       else ((layO (growA l.reverse s [x]).2.1 (l.length : Nat) (growA l.reverse s [x]).2.2 (growA l.reverse s [x]).2.2).1, emptyR, 0))
     else (0, (growA l.reverse s [x]).2.1, nowL (growA l.reverse s [x]).2.2))
  else ((growA l.reverse s [x]).1, emptyR, 0)
theorem built_some {s : Rm} {lv : Int} {L : List It} (h : (builtO s lv L).1 = 0) : 0 < (builtO s lv L).2.2.length ∧ (builtO s lv L).2.2.length ≤ 2 := by
  obtain ⟨u, up, e⟩ : ∃ u up, builtO s lv L = (0, u, up) := ⟨_, _, Prod.ext h rfl⟩
  rw [e]
  rcases built_ways e with ⟨_, _, rfl⟩ | ⟨_, _, _, _, rfl⟩ <;> simp
theorem lay_some {s : Rm} {lv : Int} {L F : List It} (h : (layO s lv L F).1 = 0) : 0 < (layO s lv L F).2.2.length ∧ (layO s lv L F).2.2.length ≤ 2 := by
  unfold layO at h ⊢
  split
  · rename_i h1
    rw [if_pos h1] at h
    split
    · exact built_some h1
    · rename_i h2
      rw [if_neg h2] at h
      exact absurd h h2
  · rename_i h1
    rw [if_neg h1] at h
    exact absurd h h1

/-! ### Where all lies -/
/-- Cells ahead of a range, or behind it. -/
def Out (lo hi : Nat) (w : World) : Addr → Prop := fun p => (p.block < lo ∨ hi ≤ p.block) ∧ p.block < w.heap.size
/-- A step's items, between its bounds. -/
def RowAt (w : World) (q : Sv) : Prop := ∃ w0 : World, w0.heap.size = q.hi ∧ RowOf rIt 5 40 q.lo w0 q.A q.c q.nd.2 ∧ ∀ k, q.lo ≤ k → k < q.hi → w.heap[k]? = w0.heap[k]?
theorem RowAt.use {w : World} {q : Sv} (h : RowAt w q) (hh : q.hi ≤ w.heap.size) : RowOf rIt 5 40 q.lo w q.A q.c q.nd.2 := by
  obtain ⟨w0, h0, ⟨cs, h1, h2⟩, h3⟩ := h
  refine ⟨cs, ⟨h1.1, ?_⟩, fun i x hi => ?_⟩
  · rcases h1.2 with e | ⟨g, cap, cur, e, hb, hg, r⟩
    · exact .inl e
    · have hlt := (Array.getElem?_eq_some_iff.1 hg).1
      exact .inr ⟨g, cap, cur, e, hb, (h3 g hb (by omega)).trans hg, r⟩
  · obtain ⟨vs, e1, e2, e3⟩ := h2 i x hi
    refine ⟨vs, e1, e2, stab_it _ _ _ _ _ _ (fun p v hp hc => ?_) e3⟩
    have hb := h3 p.block hp.1.1 (by have := hp.1.2.1; omega)
    exact ⟨⟨⟨hp.1.1, by have := hp.1.2.1; omega, (World.frozen?_of_block hb).trans hp.1.2.2⟩, hp.2⟩, (World.cell?_of_block hb).trans hc⟩
theorem RowAt.same {w w' : World} {q : Sv} (h : RowAt w q) (e : ∀ k, q.lo ≤ k → k < q.hi → w'.heap[k]? = w.heap[k]?) : RowAt w' q := by
  obtain ⟨w0, h0, h1, h3⟩ := h
  exact ⟨w0, h0, h1, fun k h4 h5 => (e k h4 h5).trans (h3 k h4 h5)⟩
/-- The items of all steps, one behind the other. -/
structure Rows (lo hi : Nat) (w : World) (l : List Sv) : Prop where
  ok : ∀ q ∈ l, lo ≤ q.lo ∧ q.lo ≤ q.hi ∧ q.hi ≤ hi ∧ RowAt w q
  apart : l.Pairwise fun p q => p.hi ≤ q.lo
theorem row_block {w : World} {q : Sv} (h : RowAt w q) : ∀ g, q.A.map (·.block) = some g → q.lo ≤ g ∧ g < q.hi := fun g e => by
  obtain ⟨w0, h0, ⟨cs, ho, _⟩, _⟩ := h
  have := ho.lt g (by rw [← e]; cases q.A <;> rfl)
  exact ⟨this.1, by omega⟩
/-- What a row of items is, elsewhere. -/
structure FrB (lo hr hi : Nat) (w : World) (fb m fc : Nat) (F : List It) : Prop where
  len : F.length = m
  pos : 0 < m
  few : m ≤ 2
  at_ : hr ≤ fb
  row : ∃ ps : List Iv, ps.map (·.1) = F ∧ w.ownsRow hr 40 5 (.slice (some ⟨fb, 0, none⟩) m fc) m (cells5 ps) ∧ ∀ p ∈ ps, InI p.1 ∧ rBy (Out lo hi w) w [p.2] p.1.2.2
theorem FrB.same {lo hr hi fb m fc : Nat} {w w' : World} {F : List It} (h : FrB lo hr hi w fb m fc F) (hs : w.heap.size ≤ w'.heap.size) (e : ∀ k, k < w.heap.size → (k < lo ∨ hi ≤ k ∨ k = fb) → w'.heap[k]? = w.heap[k]?) : FrB lo hr hi w' fb m fc F := by
  obtain ⟨h1, h2, h3, h4, ps, h5, h6, h7⟩ := h
  refine ⟨h1, h2, h3, h4, ps, h5, ⟨h6.1, ?_⟩, fun p hp => ⟨(h7 p hp).1, stab_by _ _ _ _ _ _ (fun a v ha hc => ?_) (h7 p hp).2⟩⟩
  · rcases h6.2 with e' | ⟨g, cap, cur, e', hb, hg, r⟩
    · exact .inl e'
    · cases e'
      exact .inr ⟨_, _, cur, rfl, hb, (e _ (Array.getElem?_eq_some_iff.1 hg).1 (.inr (.inr rfl))).trans hg, r⟩
  · have hb := e a.block ha.2 (by rcases ha.1 with h | h <;> omega)
    exact ⟨⟨ha.1, by have := ha.2; omega⟩, (World.cell?_of_block hb).trans hc⟩
end Go.Proofs.YtogieepfimpdmaaGreat

/-
  Package put: the way of a key, from the root to its leaf. Conditions: those that each lemma states.
-/
namespace Go.Proofs.YtogieepfimpdmaaGreat
open Go.RowKit

/-- The node that many steps down a key's way. -/
noncomputable def atW (s : Rm) (k : Ky) (a : Int) : Nat → Int
  | 0 => a
  | j + 1 => refW (rmV s (atW s k a j)) k
theorem ref_at {n : Nd} {k : Ky} {y : It} (h : n.2[wayN n k]? = some y) : refW n k = y.2.1 := by
  unfold refW
  rw [h]
  rfl
theorem at_down {s : Rm} {k : Ky} {a : Int} {l : Nat} (h : AtT s l a) : ∀ j, j ≤ l → AtT s (l - j) (atW s k a j)
  | 0, _ => h
  | j + 1, hj => by
    have h1 := at_down (k := k) h j (by omega)
    obtain ⟨d, hd⟩ : ∃ d, l - j = d + 1 := ⟨l - j - 1, by omega⟩
    rw [hd] at h1
    have hne : 0 < (rmV s (atW s k a j)).2.length := (mayN_of h1.may).1.2.2.2 (by rw [h1.lvl]; omega)
    obtain ⟨y, hy⟩ : ∃ y, (rmV s (atW s k a j)).2[wayN (rmV s (atW s k a j)) k]? = some y := ⟨_, List.getElem?_eq_getElem (way_in k hne)⟩
    have h2 := h1.down (List.mem_of_getElem? hy)
    show AtT s (l - (j + 1)) (refW (rmV s (atW s k a j)) k)
    rw [ref_at hy, show l - (j + 1) = d by omega]
    exact h2

theorem step_info0 : (Tryz.prog.info? 94).map (fun i => (i.zero, i.size, i.bytes)) = some (some (.agg #[.int .i64 0, .slice none 0 0, .int .i64 0, .bool false]), 4, 48) := by kernel_rfl
theorem svs_app (a b : List Sv) : svs (a ++ b) = svs a ++ svs b := by simp [svs]
structure WayIs (lo : Nat) (s : Rm) (k : Ky) (a : Int) (W : World) (A : Option Addr) (c : Nat) (l : List Sv) : Prop where
  row : W.ownsRow lo 94 4 (.slice A l.length c) l.length (svs l)
  rows : Rows lo W.heap.size W l
  off : ∀ g q, A.map (·.block) = some g → q ∈ l → g < q.lo ∨ q.hi ≤ g
  are : ∀ i q, l[i]? = some q → q.nd = rmV s (atW s k a i) ∧ (q.pl, q.inst) = stpN q.nd k

theorem steps_push {w : World} {lo : Nat} {A : Option Addr} {c : Nat} {l : List Sv} (h : w.ownsRow lo 94 4 (.slice A l.length c) l.length (svs l)) (q : Sv) (g m n : Nat) (hg : w.heap[g]? = some (.cells #[.int .i64 q.nd.1, .slice q.A q.nd.2.length q.c, .int .i64 (q.pl : Int), .bool q.inst] 94 (0, 0))) (hn : l.length = n) (hs : n < 100) (hbase : lo ≤ w.heap.size) :
    ∃ A' c' w', (Builtin.append_ #[65, 65] 65 #[.slice A n c, .slice (some ⟨g, 0, none⟩) 1 m]).run Tryz.prog w = .ok (.slice A' (n + 1) c') w' ∧ w'.ownsRow lo 94 4 (.slice A' (l ++ [q]).length c') (l ++ [q]).length (svs (l ++ [q])) ∧ w.grownBy w' (A.map (·.block)) ∧ Below lo w w' ∧ (A'.map (·.block) = A.map (·.block) ∨ A'.map (·.block) = some w.heap.size) := by
  subst hn
  obtain ⟨i0, hi, hz0, hz1, hz2⟩ := info_parts step_info0
  obtain ⟨A1, c1, e, _, _, e4, _⟩ := own_any h
  cases e
  obtain ⟨v', w', hr, o1, g1, b1, k1⟩ := app_own (P := Tryz.prog) (w := w) lo 65 65 94 i0 (.agg #[.int .i64 0, .slice none 0 0, .int .i64 0, .bool false]) 4 48 Tryz.underlying65 hi hz0 hz1 hz2 rfl (by decide) _ _ _ h ⟨g, 0, none⟩ 1 m (svV q) rfl (World.news_of_block (cs := #[.int .i64 q.nd.1, .slice q.A q.nd.2.length q.c, .int .i64 (q.pl : Int), .bool q.inst]) hg) (fun u hu => by
    simp [svV] at hu
    rcases hu with rfl | rfl | rfl | rfl <;> rfl) (by unfold maxLen; omega) (by omega) hbase
  obtain ⟨A2, c2, rfl, _, _, e5, _⟩ := own_any o1
  rw [e4] at g1 k1
  rw [e5] at k1
  refine ⟨A2, c2, w', hr, ?_, g1, b1, k1⟩
  rw [svs_app, List.length_append]
  simpa [svs] using o1
theorem WayIs.push {lo : Nat} {s : Rm} {k : Ky} {a : Int} {wr W1 w6 w7 : World} {A A' : Option Addr} {c c' : Nat} {l : List Sv} (h : WayIs lo s k a wr A c l) (q : Sv) (hlo : q.lo = wr.heap.size) (hhi : q.hi = W1.heap.size) (hrow : RowOf rIt 5 40 wr.heap.size W1 q.A q.c q.nd.2)
    (hb1 : Below wr.heap.size wr W1) (h16 : Below W1.heap.size W1 w6) (g67 : w6.grownBy w7 (A.map (·.block))) (row : w7.ownsRow lo 94 4 (.slice A' (l ++ [q]).length c') (l ++ [q]).length (svs (l ++ [q]))) (k1 : A'.map (·.block) = A.map (·.block) ∨ A'.map (·.block) = some w6.heap.size)
    (hnd : q.nd = rmV s (atW s k a l.length)) (hst : (q.pl, q.inst) = stpN q.nd k) (hl : lo ≤ wr.heap.size) : WayIs lo s k a w7 A' c' (l ++ [q]) := by
  have hA : ∀ g, A.map (·.block) = some g → g < wr.heap.size := fun g e => (h.row.lt g (by rw [← e]; cases A <;> rfl)).2
  have s1 := hb1.size
  have s6 := h16.size
  have s7 := g67.size
  have hold : ∀ x ∈ l, ∀ k, x.lo ≤ k → k < x.hi → w7.heap[k]? = wr.heap[k]? := fun x hx k h1 h2 => by
    obtain ⟨_, _, h3, _⟩ := h.rows.ok x hx
    rw [g67.block k (by omega) (fun e => by rcases h.off _ x e.symm hx with h4 | h4 <;> omega), h16.block k (by omega), hb1.block k (by omega)]
  refine ⟨row, ⟨fun x hx => ?_, ?_⟩, fun g x e hx => ?_, fun i x e => ?_⟩
  · rcases List.mem_append.1 hx with hx | hx
    · obtain ⟨h1, h2, h3, h4⟩ := h.rows.ok x hx
      exact ⟨h1, h2, by omega, h4.same (hold x hx)⟩
    · obtain rfl := List.mem_singleton.1 hx
      refine ⟨by omega, by omega, by omega, W1, hhi.symm, by rw [hlo]; exact hrow, fun k h1 h2 => ?_⟩
      rw [g67.block k (by omega) (fun e => by have := hA _ e.symm; omega), h16.block k (by omega)]
  · rw [List.pairwise_append]
    refine ⟨h.rows.apart, List.pairwise_singleton _ _, fun x hx y hy => ?_⟩
    obtain rfl := List.mem_singleton.1 hy
    have := (h.rows.ok x hx).2.2.1
    omega
  · have hg : A.map (·.block) = some g ∨ g = w6.heap.size := by
      rcases k1 with k1 | k1
      · exact .inl (by rw [← k1, e])
      · rw [e] at k1
        exact .inr (by simpa using k1)
    rcases List.mem_append.1 hx with hx | hx
    · rcases hg with hg | hg
      · exact h.off g x hg hx
      · have := (h.rows.ok x hx).2.2.1
        omega
    · obtain rfl := List.mem_singleton.1 hx
      rcases hg with hg | hg
      · have := hA g hg
        omega
      · omega
  · rcases Nat.lt_or_ge i l.length with hi | hi
    · rw [List.getElem?_append_left hi] at e
      exact h.are i x e
    · rw [List.getElem?_append_right hi] at e
      have hi0 : i = l.length := by
        have := (List.getElem?_eq_some_iff.1 e).1
        simp at this
        omega
      subst hi0
      simp at e
      subst e
      exact ⟨hnd, hst⟩

set_option maxRecDepth 100000 in
set_option maxHeartbeats 8000000 in
theorem way_any (qa qb qc qd : Option Addr × Nat × Nat) (s : Rm) (a : Int) (lv : Nat) (hlv : lv < 6) (k : Ky) (w : World) (h : Sto (Old w) w (.agg #[.slice qa.1 qa.2.1 qa.2.2, .slice qb.1 qb.2.1 qb.2.2, .slice qc.1 qc.2.1 qc.2.2, .slice qd.1 qd.2.1 qd.2.2]) s) (hT : AtT s lv a) :
    Calls Tryz.prog 25 #[.agg #[.slice qa.1 qa.2.1 qa.2.2, .slice qb.1 qb.2.1 qb.2.2, .slice qc.1 qc.2.1 qc.2.2, .slice qd.1 qd.2.1 qd.2.2], .int .i64 a, .int .i64 ((lv : Int) + 1), kyV k] w fun e w' => ∃ A c l, e = .returned (.tuple #[.slice A l.length c, .int .i64 0]) ∧ l.length = lv + 1 ∧ WayIs w.heap.size s k a w' A c l ∧ Below w.heap.size w w' := by
  obtain ⟨w1, hw1, b1, hs1, hB1⟩ := box_4 w (.slice qa.1 qa.2.1 qa.2.2) (.slice qb.1 qb.2.1 qb.2.2) (.slice qc.1 qc.2.1 qc.2.2) (.slice qd.1 qd.2.1 qd.2.2) 29
  obtain ⟨w2, hw2, -, -, -, hs2, hB2, b2⟩ := box_three w1 (.int .u8 (k.1.toNat : Int)) (.int .u32 k.2.1) (.int .u32 k.2.2) 37
  have hB12 := hB1.trans (hB2.mono hB1.size)
  have G1 := Lib.hid ((hB2.block w.heap.size (by omega)).trans b1)
  have G2 := Lib.hid b2
  have B2 := Lib.hid hB12
  have SZ := Lib.hid (show w1.heap.size = w.heap.size + 1 ∧ w2.heap.size = w.heap.size + 2 from ⟨hs1, by omega⟩)
  have HS := Lib.hid h
  have hdn := Lib.hid (fun j hj => at_down (k := k) hT j hj)
  have i0 : (0 : Int) ≤ (lv : Int) + 1 := by omega
  replace hs1 := Lib.hid hs1
  replace hs2 := Lib.hid hs2
  replace hT := Lib.hid hT
  clear h hB1 hB2 hB12 b1 b2
  unfold kyV
  go_enter Tryz.func25, Tryz.ntmps25
  go_upto_region 1 with fail
  clear hw1 hw2
  go_wp2_with fail
  go_loopw [10, 11, 17] (fun sv av iv wr => ∃ (j : Nat) (A : Option Addr) (c : Nat) (l : List Sv), j ≤ lv + 1 ∧ iv = .int .i64 (j : Int) ∧ l.length = j ∧ sv = .slice A l.length c ∧ (j ≤ lv → av = .int .i64 (atW s k a j)) ∧ (∃ z : Int, av = .int .i64 z) ∧ WayIs w2.heap.size s k a wr A c l ∧ Below w2.heap.size w2 wr) (fun _ _ iv _ => lv + 1 - (intOf iv).toNat)
  case atStart => exact ⟨0, none, 0, [], by omega, rfl, rfl, rfl, fun _ => rfl, ⟨_, rfl⟩, ⟨World.ownsRow_nil .., ⟨fun _ h => (List.not_mem_nil h).elim, List.Pairwise.nil⟩, fun _ _ e => (nomatch e), fun _ _ e => (nomatch e)⟩, Below.refl _ _⟩
  case round =>
    obtain ⟨j, A, c, l, hj, rfl, hll, rfl, hav, ⟨zv, rfl⟩, hW, hb⟩ := hrel
    obtain ⟨ml, hml⟩ : ∃ q, l.length = q := ⟨_, rfl⟩
    by_cases hlt : j < lv + 1
    case neg =>
      have hc0 : ¬ ((j : Int) < (lv : Int) + 1) := by omega
      have hfin : Hid (∃ A' c' l', Ending.returned (.tuple #[.slice A ml c, .int .i64 0]) = .returned (.tuple #[.slice A' l'.length c', .int .i64 0]) ∧ l'.length = lv + 1 ∧ WayIs w.heap.size s k a wr A' c' l' ∧ Below w.heap.size w wr) := Lib.hid
        ⟨A, c, l, by rw [hml], by omega, ⟨own_low hW.row (by have := SZ.out; omega), ⟨fun q hq => by
          obtain ⟨h1, h2, h3, h4⟩ := hW.rows.ok q hq
          exact ⟨by have := SZ.out; omega, h2, h3, h4⟩, hW.rows.apart⟩, hW.off, hW.are⟩, B2.out.trans (hb.mono B2.out.size)⟩
      rw [hml]
      replace hml := Lib.hid hml
      replace hll := Lib.hid hll
      replace hW := Lib.hid hW
      clear hav
      go_wp2_with fail
      exact bodyPost_ret (v := .tuple #[.slice A ml c, .int .i64 0]) (by simp [results, Tryz.results25, go_sem]) rfl hfin.out
    have hc0 : ((j : Int) < (lv : Int) + 1) := by omega
    obtain rfl : zv = atW s k a j := by
      have := hav (by omega)
      simpa using this
    have hA := hdn.out j (by omega)
    have hok := hA.ok
    have hlv := hA.lvl
    have hmay := hA.may
    have hBr := Lib.hid (B2.out.trans (hb.mono B2.out.size))
    have hN := nodeR_own _ s (atW s k a j) wr (HS.out.below hBr.out)
    have hne := (mayN_of hmay).1.2.2.2
    have hfive := Lib.hid (mayN_of hmay).1.2.2.1
    obtain ⟨nd, hnd⟩ : ∃ q, rmV s (atW s k a j) = q := ⟨_, rfl⟩
    have hnext : Hid (nd.1 ≠ 0 → ∃ y, nd.2[(stpN nd k).1]? = some y ∧ y.2.1 = atW s k a (j + 1)) := Lib.hid (fun h0 => by
      have hw : (stpN nd k).1 = wayN nd k := by unfold stpN; rw [if_neg h0]
      rw [hnd] at hne
      rw [hnd] at hlv
      have hlt := way_in k (hne (by omega))
      refine ⟨_, by rw [hw]; exact List.getElem?_eq_getElem hlt, ?_⟩
      show _ = refW (rmV s (atW s k a j)) k
      rw [hnd, ref_at (List.getElem?_eq_getElem hlt)])
    rw [hok, hnd] at hN
    rw [hnd] at hlv hfive
    clear hmay hne hok
    have hlv0 : nd.1 = 0 → j = lv := fun h0 => by omega
    obtain ⟨lw, hlw⟩ : ∃ q, nd.1 = q := ⟨_, rfl⟩
    obtain ⟨nl, hnl⟩ : ∃ q, nd.2.length = q := ⟨_, rfl⟩
    obtain ⟨pl, hpl⟩ : ∃ q, (stpN nd k).1 = q := ⟨_, rfl⟩
    obtain ⟨ins, hins⟩ : ∃ q, (stpN nd k).2 = q := ⟨_, rfl⟩
    have g1 := Lib.hid ((hb.block w.heap.size (by have := SZ.out; omega)).trans G1.out)
    have g2 := Lib.hid ((hb.block w1.heap.size (by have := SZ.out; omega)).trans G2.out)
    obtain ⟨k0, k1, k2, k3, _⟩ := four_cells g1.out
    have hW' := Lib.hid hW
    have hb' := Lib.hid hb
    have hnd' := Lib.hid hnd
    clear hA hW hb hnd hav
    go_upto_region 5 with fail
    go_wp2_with fail
    with_reducible refine hN.mono ?_
    rintro e W1 ⟨u, rfl, ⟨Z, zc, rfl, hin, hrow⟩, hb1⟩
    rw [hnl, hlw]
    clear hN k0 k1 k2 k3
    obtain ⟨w3, hw3, b3, hs3, hB3⟩ := box_pair' W1 (.int .i64 lw) (.slice Z nl zc) 45
    have g23 := (hB3.block w1.heap.size (by have := hb1.size; have := hb'.out.size; have := SZ.out; omega)).trans ((hb1.block w1.heap.size (by have := hb'.out.size; have := SZ.out; omega)).trans g2.out)
    obtain ⟨y0, y1, _⟩ := two_cells b3
    obtain ⟨z0, z1, z2, _⟩ := three_cells g23
    have hst := stepOf_any Z zc nd k w3 ((NodR.nod ⟨Z, zc, rfl, hin, hrow⟩).drop.below hB3)
    rw [hnl, hlw, hpl, hins] at hst
    have B13 := Lib.hid hB3
    have hrow1 := Lib.hid hrow
    have B1 := Lib.hid hb1
    have b3' := Lib.hid b3
    clear hb1 hB3 hrow hin b3 g23
    replace hs3 := Lib.hid hs3
    go_upto_region 8 with fail
    clear hw3
    unfold kyV at hst
    go_wp2_with fail
    with_reducible refine hst.mono ?_
    rintro e w4 ⟨rfl, hb4⟩
    clear hst y0 y1 z0 z1 z2
    obtain ⟨w5, hw5, b5, hs5, hB5⟩ := box_4 w4 (.int .i64 lw) (.slice Z nl zc) (.int .i64 (pl : Int)) (.bool ins) 94
    obtain ⟨y0, y1, y2, y3, _⟩ := four_cells b5
    have hsz4 := Lib.hid hb4.size
    have B35 := Lib.hid (hb4.trans (hB5.mono hb4.size))
    have b5' := Lib.hid b5
    clear hb4 hB5 b5
    replace hs5 := Lib.hid hs5
    go_upto_region 9 with fail
    clear hw5
    obtain ⟨w6, hw6, b6, hs6, hB6⟩ := box_4 w5 (.int .i64 lw) (.slice Z nl zc) (.int .i64 (pl : Int)) (.bool ins) 94
    have B16 : Hid (Below W1.heap.size W1 w6) := Lib.hid (B13.out.trans ((B35.out.mono B13.out.size).trans (hB6.mono (Nat.le_trans B13.out.size B35.out.size))))
    have B26 : Hid (Below w2.heap.size w2 w6) := Lib.hid (hb'.out.trans ((B1.out.mono hb'.out.size).trans (B16.out.mono (Nat.le_trans hb'.out.size B1.out.size))))
    have row6 := own_below (own_below hW'.out.row B1.out) B16.out
    obtain ⟨A', c', w7, hr7, row7, gr7, hb7, k7⟩ := steps_push row6 ⟨nd, pl, ins, Z, zc, wr.heap.size, W1.heap.size⟩ w5.heap.size 1 j (by rw [hlw, hnl]; exact b6) hll (by omega) B26.out.size
    have hW7 := Lib.hid (WayIs.push hW'.out ⟨nd, pl, ins, Z, zc, wr.heap.size, W1.heap.size⟩ rfl rfl hrow1.out B1.out B16.out gr7 row7 k7 (by rw [hll]; exact hnd'.out.symm) (by rw [← hpl, ← hins]) hb'.out.size)
    have hB27 := Lib.hid (B26.out.trans hb7)
    have hAlt : ∀ g, A.map (·.block) = some g → g < wr.heap.size := fun g e => (hW'.out.row.lt g (by rw [← e]; cases A <;> rfl)).2
    have f3 := (gr7.block W1.heap.size (by have := B16.out.size; have := B13.out.size; have := hs3.out; have := hs5.out; have := B35.out.size; have := hB6.size; omega) (fun e => by have := hAlt _ e.symm; have := B1.out.size; omega)).trans ((hB6.block W1.heap.size (by have := hs3.out; have := B35.out.size; omega)).trans ((B35.out.block W1.heap.size (by have := hs3.out; omega)).trans b3'.out))
    have f5 := (gr7.block w4.heap.size (by have := hs5.out; have := hB6.size; omega) (fun e => by have := hAlt _ e.symm; have := B1.out.size; have := hs3.out; have := hsz4.out; omega)).trans ((hB6.block w4.heap.size (by have := hs5.out; omega)).trans b5'.out)
    have H7 := Lib.hid hr7
    have hl7 : Hid (j + 1 = (l ++ [(⟨nd, pl, ins, Z, zc, wr.heap.size, W1.heap.size⟩ : Sv)]).length) := Lib.hid (by rw [List.length_append, hll]; rfl)
    obtain ⟨l', hl'⟩ : ∃ q, l ++ [(⟨nd, pl, ins, Z, zc, wr.heap.size, W1.heap.size⟩ : Sv)] = q := ⟨_, rfl⟩
    have hrow7 : Hid (RowOf rIt 5 40 wr.heap.size w7 Z zc nd.2) := Lib.hid (by
      obtain ⟨_, _, h3, h4⟩ := hW7.out.rows.ok ⟨nd, pl, ins, Z, zc, wr.heap.size, W1.heap.size⟩ (by simp)
      exact h4.use h3)
    rw [hl'] at hW7 hl7
    replace hl' := Lib.hid hl'
    obtain ⟨n0, n1, _⟩ := two_cells f3
    obtain ⟨s0, s1, s2, s3, _⟩ := four_cells f5
    replace f3 := Lib.hid f3
    replace f5 := Lib.hid f5
    replace hs6 := Lib.hid hs6
    replace b6 := Lib.hid b6
    clear hr7 gr7 hb7 row7 row6 k7 hB6 hAlt hW'
    have i7 : IntKind.i64.wrap ((j : Int) + 1) = ((j + 1 : Nat) : Int) := by rw [IntKind.wrap_i64]; omega
    by_cases h0 : lw = 0
    · subst h0
      have hjl := Lib.hid (hlv0 hlw)
      replace hlw := Lib.hid hlw
      replace hnl := Lib.hid hnl
      replace hpl := Lib.hid hpl
      replace hins := Lib.hid hins
      clear hlv hlv0
      go_wp2_with (at_builtin; refine wpList_append_run rfl _ _ _ rfl rfl rfl H7.out ?_; clear H7)
      go_roundw
      case rel => exact ⟨j + 1, A', c', l', by omega, by go_num, hl7.out.symm, by rw [← hl7.out], fun h => by have := hjl.out; omega, ⟨_, rfl⟩, hW7.out, hB27.out⟩
      case measure => simp [intOf]; omega
    · have hgt : decide (lw > 0) = true := by simp; omega
      obtain ⟨y, hy, hyn⟩ := hnext.out (by omega)
      rw [hpl] at hy
      obtain ⟨ad, E, ce, e0, _, ⟨_, _, _, t3, _⟩, _⟩ := its_at (hrow7.out.rel stab_it) hy
      have hpn : pl < nl := by rw [← hnl]; exact (List.getElem?_eq_some_iff.1 hy).1
      subst e0
      have hn5 : nl ≤ 5 := by rw [← hnl]; exact hfive.out
      replace hy := Lib.hid hy
      replace hyn := Lib.hid hyn
      replace hlw := Lib.hid hlw
      replace hnl := Lib.hid hnl
      replace hpl := Lib.hid hpl
      replace hins := Lib.hid hins
      clear hlv hlv0
      go_wp2_with (at_builtin; refine wpList_append_run rfl _ _ _ rfl rfl rfl H7.out ?_; clear H7)
      go_roundw
      case rel => exact ⟨j + 1, A', c', l', by omega, by go_num, hl7.out.symm, by rw [← hl7.out], fun _ => by rw [hyn.out], ⟨_, rfl⟩, hW7.out, hB27.out⟩
      case measure => simp [intOf]; omega
end Go.Proofs.YtogieepfimpdmaaGreat

/-
  Package walk: Nodes. Conditions: those that each lemma states.
-/
namespace Go.Proofs.YtogieepfimpdmaaGreat
open Go.RowKit Go.Shelf Go.Maps
attribute [local go_sem] Oper.semAt_some

/-- Where only the ordinary end is wanted. -/
def onlyN (X : Act → World → Prop) : Exit → Act → World → Prop
  | .normal, a, w => X a w
  | _, _, _ => False
theorem wpIn_onlyN {F : Fence} {n : Nat} {P : Program} {c : Code} {K : Act → World → Prop} {Q : Exit → Act → World → Prop} {a : Act} {w : World} (h : c.wpIn F n P (onlyN K) a w) : c.wpIn F n P (Exit.then K Q) a w :=
  wpIn_mono h fun e a w h => by
    cases e <;> first
      | exact h
      | exact h.elim

end Go.Proofs.YtogieepfimpdmaaGreat

/-
  Package put: grow. Conditions: those that each lemma states.
-/
namespace Go.Proofs.YtogieepfimpdmaaGreat
open Go.RowKit Go.Shelf
attribute [local go_sem] Oper.semAt_some

/-- Between two rounds. -/
def GrI (l0 lo hr hi B3 B6 B7 B8 B9 : Nat) (n0 : World) (s : Rm) (x : It) (l : List Sv) (r : List Nat × Option Nat) (V : World) : Prop :=
  r.2 = none ∧ (Below lo n0 V ∧ hi ≤ V.heap.size) ∧ (BoxW B6 #[.slice none 0 0, .slice none 0 0, .slice none 0 0, .slice none 0 0] 29 V ∧ BoxW B7 #[.int .i64 0] 3 V ∧ BoxW B8 #[.int .i64 0] 33 V) ∧
  ∃ (sk : Rm) (F : List It) (qa qb qc qd : Option Addr × Nat × Nat) (fb m fc : Nat), growA l.reverse s [x] = growA (l.reverse.drop r.1.length) sk F ∧ BoxW B3 #[.slice qa.1 qa.2.1 qa.2.2, .slice qb.1 qb.2.1 qb.2.2, .slice qc.1 qc.2.1 qc.2.2, .slice qd.1 qd.2.1 qd.2.2] 29 V ∧ Sto (Out l0 hi V) V (.agg #[.slice qa.1 qa.2.1 qa.2.2, .slice qb.1 qb.2.1 qb.2.2, .slice qc.1 qc.2.1 qc.2.2, .slice qd.1 qd.2.1 qd.2.2]) sk ∧
    BoxW B9 #[.slice (some ⟨fb, 0, none⟩) m fc] 43 V ∧ FrB l0 hr hi V fb m fc F ∧ ∀ q ∈ l.take (l.length - r.1.length), RowAt V q
def GrX (lo hi B6 B7 B8 : Nat) (n0 : World) (s : Rm) (x : It) (l : List Sv) (c : Code) (r : List Nat × Option Nat) (V : World) : Prop :=
  c = .ret ∧ r.2 = none ∧ (Below lo n0 V ∧ hi ≤ V.heap.size) ∧ ∃ er : Int, BoxW B6 #[.slice none 0 0, .slice none 0 0, .slice none 0 0, .slice none 0 0] 29 V ∧ BoxW B7 #[.int .i64 0] 3 V ∧ BoxW B8 #[.int .i64 er] 33 V ∧ growA l.reverse s [x] = (er, emptyR, []) ∧ er ≠ 0
theorem out_own {lo hi : Nat} {V V' : World} {row : Option Nat} (hg : V.grownBy V' row) (hr : ∀ r, row = some r → ∃ o : Obj, V.heap[r]? = some o ∧ o.isCells = false) {p : Addr} {v : Value} (hp : Out lo hi V p) (hc : V.cell? p = some v) : Out lo hi V' p ∧ V'.cell? p = some v :=
  ⟨⟨hp.1, Nat.lt_of_lt_of_le hp.2 hg.size⟩, cell_kept hc hg hr⟩
theorem rowAt_own {V V' : World} {q : Sv} {row : Option Nat} (h : RowAt V q) (hh : q.hi ≤ V.heap.size) (hg : V.grownBy V' row) (hr : ∀ r, row = some r → V.heap.size ≤ r ∨ q.hi ≤ r) : RowAt V' q :=
  h.same fun k h1 h2 => hg.block k (by omega) (fun e => by rcases hr k e.symm with h | h <;> omega)
theorem frB_own {lo hr hi fb m fc : Nat} {V V' : World} {F : List It} {row : Option Nat} (h : FrB lo hr hi V fb m fc F) (hg : V.grownBy V' row) (hrow : ∀ r, row = some r → ∃ o : Obj, V.heap[r]? = some o ∧ o.isCells = false) : FrB lo hr hi V' fb m fc F := by
  obtain ⟨h1, h2, h3, h4, ps, h5, h6, h7⟩ := h
  refine ⟨h1, h2, h3, h4, ps, h5, ⟨h6.1, ?_⟩, fun p hp => ⟨(h7 p hp).1, stab_by _ _ _ _ _ _ (fun a v ha hc => out_own hg hrow ha hc) (h7 p hp).2⟩⟩
  rcases h6.2 with e' | ⟨g, cap, cur, e', hb, hgg, r⟩
  · exact .inl e'
  · exact .inr ⟨g, cap, cur, e', hb, block_kept hgg hg hrow, r⟩
theorem grI_own {l0 lo hr hi B3 B6 B7 B8 B9 : Nat} {n0 : World} {s : Rm} {x : It} {l : List Sv} {B : Nat} (hlh : lo ≤ hi) (hB : lo ≤ B) (hq : ∀ q ∈ l, q.hi ≤ B ∧ q.hi ≤ hi) : OwnFrom B (GrI l0 lo hr hi B3 B6 B7 B8 B9 n0 s x l) := fun r V V' row hs hg hrr => by
  obtain ⟨h0, ⟨h1, h2⟩, ⟨h3, h4, h5⟩, sk, F, qa, qb, qc, qd, fb, m, fc, e1, e2, e3, e4, e5, e6⟩ := hs
  have hn := fun r e => (hrr r e).2
  refine ⟨h0, ⟨h1.grown hg (by omega) (fun r e => by have := (hrr r e).1; omega), Nat.le_trans h2 hg.size⟩, ⟨block_kept h3 hg hn, block_kept h4 hg hn, block_kept h5 hg hn⟩, sk, F, qa, qb, qc, qd, fb, m, fc, e1, block_kept e2 hg hn, e3.map fun p v hp hc => out_own hg hn hp hc, block_kept e4 hg hn, frB_own e5 hg hn, fun q hm => ?_⟩
  have := hq q (List.mem_of_mem_take hm)
  exact rowAt_own (e6 q hm) (by omega) hg fun r e => .inr (by have := (hrr r e).1; omega)
theorem grX_own {lo hi B6 B7 B8 : Nat} {n0 : World} {s : Rm} {x : It} {l : List Sv} {c : Code} {B : Nat} (hlh : lo ≤ hi) (hB : lo ≤ B) : OwnFrom B (GrX lo hi B6 B7 B8 n0 s x l c) := fun r V V' row hs hg hrr => by
  obtain ⟨hc, h0, ⟨h1, h2⟩, er, h3, h4, h5, h6⟩ := hs
  have hn := fun r e => (hrr r e).2
  exact ⟨hc, h0, ⟨h1.grown hg (by omega) (fun r e => by have := (hrr r e).1; omega), Nat.le_trans h2 hg.size⟩, er, block_kept h3 hg hn, block_kept h4 hg hn, block_kept h5 hg hn, h6⟩

def GrowR (l0 lo : Nat) (s : Rm) (l : List Sv) (x : It) (w : World) (e : Ending) (w' : World) : Prop := ∃ qa qb qc qd : Option Addr × Nat × Nat, e = .returned (.tuple #[.agg #[.slice qa.1 qa.2.1 qa.2.2, .slice qb.1 qb.2.1 qb.2.2, .slice qc.1 qc.2.1 qc.2.2, .slice qd.1 qd.2.1 qd.2.2], .int .i64 (growO s l x).2.2, .int .i64 (growO s l x).1]) ∧ Sto (Out l0 w.heap.size w') w' (.agg #[.slice qa.1 qa.2.1 qa.2.2, .slice qb.1 qb.2.1 qb.2.2, .slice qc.1 qc.2.1 qc.2.2, .slice qd.1 qd.2.1 qd.2.2]) (growO s l x).2.1 ∧ Below lo w w'

theorem setCell_self {W : World} {g i : Nat} {cs : Array Value} {t : TypeId} {v : Value} (h : W.heap[g]? = some (.cells cs t (0, 0))) (hv : cs[i]? = some v) : W.setCell ⟨g, i, none⟩ v = W := by
  have hh : (W.setCell ⟨g, i, none⟩ v).heap = W.heap := by
    apply Array.ext_getElem?
    intro k
    by_cases e : k = g
    · subst e
      rw [heap_setCell_same W k i _ _ v h, h]
      congr 2
      apply Array.ext_getElem?
      intro j
      obtain ⟨hi, hv'⟩ := Array.getElem?_eq_some_iff.1 hv
      by_cases ej : i = j
      · subst ej
        simp [hi, hv']
      · rw [Array.getElem?_setIfInBounds_ne ej]
    · exact Below.heap_setCell W ⟨g, i, none⟩ v k e
  have : W.setCell ⟨g, i, none⟩ v = { W with heap := (W.setCell ⟨g, i, none⟩ v).heap } := rfl
  rw [this, hh]

/-- What the operations of a round say. -/
def PhI (V : World) (len : Nat) (LL : List It) (v : Value) (W : World) : Prop := V.heap.size < W.heap.size ∧ ∃ A' c', v = .slice A' len c' ∧ rIts (Old W) W [.slice A' len c'] LL
def PhL (V : World) (nu : Nat) (er : Int) (S' : Rm) (up : List It) (v : Value) (W : World) : Prop := V.heap.size < W.heap.size ∧ ∃ (qa qb qc qd : Option Addr × Nat × Nat) (M : Option Addr) (mc : Nat), v = .tuple #[.agg #[.slice qa.1 qa.2.1 qa.2.2, .slice qb.1 qb.2.1 qb.2.2, .slice qc.1 qc.2.1 qc.2.2, .slice qd.1 qd.2.1 qd.2.2], .slice M nu mc, .int .i64 er] ∧ Sto (New V.heap.size W) W (.agg #[.slice qa.1 qa.2.1 qa.2.2, .slice qb.1 qb.2.1 qb.2.2, .slice qc.1 qc.2.1 qc.2.2, .slice qd.1 qd.2.1 qd.2.2]) S' ∧ RowOf rIt 5 40 V.heap.size W M mc up
def PhS (V : World) (S' : Rm) (v : Value) (W : World) : Prop := V.heap.size < W.heap.size ∧ ∃ (qa qb qc qd : Option Addr × Nat × Nat), v = .agg #[.slice qa.1 qa.2.1 qa.2.2, .slice qb.1 qb.2.1 qb.2.2, .slice qc.1 qc.2.1 qc.2.2, .slice qd.1 qd.2.1 qd.2.2] ∧ Sto (New V.heap.size W) W (.agg #[.slice qa.1 qa.2.1 qa.2.2, .slice qb.1 qb.2.1 qb.2.2, .slice qc.1 qc.2.1 qc.2.2, .slice qd.1 qd.2.1 qd.2.2]) S'
def PhM (V : World) (nu : Nat) (up : List It) (v : Value) (W : World) : Prop := V.heap.size < W.heap.size ∧ ∃ (M : Option Addr) (mc : Nat), v = .slice M nu mc ∧ RowOf rIt 5 40 V.heap.size W M mc up

set_option maxRecDepth 100000 in
set_option maxHeartbeats 8000000 in
theorem grow_any (l0 lo : Nat) (hl0 : l0 ≤ lo) (qa qb qc qd : Option Addr × Nat × Nat) (s : Rm) (A : Option Addr) (m c : Nat) (l : List Sv) (E : Option Addr) (ce : Nat) (x : It) (w : World) (hlo : lo ≤ w.heap.size) (h : Sto (fun p => p.block < l0) w (.agg #[.slice qa.1 qa.2.1 qa.2.2, .slice qb.1 qb.2.1 qb.2.2, .slice qc.1 qc.2.1 qc.2.2, .slice qd.1 qd.2.1 qd.2.2]) s)
    (hst : w.ownsRow lo 94 4 (.slice A m c) m (svs l)) (hl : l.length = m) (hm : m ≤ 6) (hR : Rows lo w.heap.size w l) (hA : ∀ g q, A.map (·.block) = some g → q ∈ l → g < q.lo ∨ q.hi ≤ g)
    (hq : ∀ q ∈ l, In64 q.nd.1 ∧ q.nd.2.length ≤ 5 ∧ q.pl + (if q.inst = true then 1 else 0) ≤ q.nd.2.length) (hx : Itm (fun p => p.block < l0) w (itV x (.slice E x.2.2.length ce)) x) :
    Calls Tryz.prog 27 #[.agg #[.slice qa.1 qa.2.1 qa.2.2, .slice qb.1 qb.2.1 qb.2.2, .slice qc.1 qc.2.1 qc.2.2, .slice qd.1 qd.2.1 qd.2.2], .slice A m c, itV x (.slice E x.2.2.length ce)] w (GrowR l0 lo s l x w) := by
  obtain ⟨w1, hw1, b1, hs1, hB1⟩ := box_4 w (.slice qa.1 qa.2.1 qa.2.2) (.slice qb.1 qb.2.1 qb.2.2) (.slice qc.1 qc.2.1 qc.2.2) (.slice qd.1 qd.2.1 qd.2.2) 29
  obtain ⟨w2, hw2, -, -, -, -, -, hs2, hB2, b2⟩ := box_five w1 (.int .u8 (x.1.1.toNat : Int)) (.int .u32 x.1.2.1) (.int .u32 x.1.2.2) (.int .i64 x.2.1) (.slice E x.2.2.length ce) 40
  obtain ⟨w3, hw3, b3, hs3, hB3⟩ := box_4 w2 (.slice none 0 0) (.slice none 0 0) (.slice none 0 0) (.slice none 0 0) 29
  obtain ⟨w4, hw4, b4, hs4, hB4⟩ : ∃ w4, w3.alloc (.cells #[.int .i64 0] 3) = w4 ∧ BoxW w3.heap.size #[.int .i64 0] 3 w4 ∧ w4.heap.size = w3.heap.size + 1 ∧ Below w3.heap.size w3 w4 := ⟨_, rfl, heap_alloc_new w3 _, by simp, (Below.refl _ _).alloc (Nat.le_refl _) _⟩
  obtain ⟨w5, hw5, b5, hs5, hB5⟩ : ∃ w5, w4.alloc (.cells #[.int .i64 0] 33) = w5 ∧ BoxW w4.heap.size #[.int .i64 0] 33 w5 ∧ w5.heap.size = w4.heap.size + 1 ∧ Below w4.heap.size w4 w5 := ⟨_, rfl, heap_alloc_new w4 _, by simp, (Below.refl _ _).alloc (Nat.le_refl _) _⟩
  obtain ⟨w6, hw6, -, -, -, -, -, hs6, hB6, b6⟩ := box_five w5 (.int .u8 (x.1.1.toNat : Int)) (.int .u32 x.1.2.1) (.int .u32 x.1.2.2) (.int .i64 x.2.1) (.slice E x.2.2.length ce) 40
  obtain ⟨w7, hw7, b7, hs7, hB7⟩ : ∃ w7, w6.alloc (.cells #[.slice (some ⟨w5.heap.size, 0, none⟩) 1 1] 43) = w7 ∧ BoxW w6.heap.size #[.slice (some ⟨w5.heap.size, 0, none⟩) 1 1] 43 w7 ∧ w7.heap.size = w6.heap.size + 1 ∧ Below w6.heap.size w6 w7 := ⟨_, rfl, heap_alloc_new w6 _, by simp, (Below.refl _ _).alloc (Nat.le_refl _) _⟩
  obtain ⟨w8, hw8, b8, hs8, hB8⟩ := box_one w7 (.slice A m c) 65
  have hbw := Lib.hid (backwardS_any A m c w7)
  rw [hw8] at hbw
  have k78 := hB7.trans (hB8.mono hB7.size)
  have k68 := hB6.trans (k78.mono hB6.size)
  have k58 := hB5.trans (k68.mono hB5.size)
  have k48 := hB4.trans (k58.mono hB4.size)
  have k38 := hB3.trans (k48.mono hB3.size)
  have k28 := hB2.trans (k38.mono hB2.size)
  have k18 := hB1.trans (k28.mono hB1.size)
  have BW := Lib.hid k18
  obtain ⟨i0, i1, i2, i3, i4, _⟩ := five_cells ((((hB3.trans (hB4.mono hB3.size)).trans (hB5.mono (hB3.trans (hB4.mono hB3.size)).size)).block w1.heap.size (by omega)).trans b2)
  have SZ := Lib.hid (show w1.heap.size = w.heap.size + 1 ∧ w2.heap.size = w.heap.size + 2 ∧ w3.heap.size = w.heap.size + 3 ∧ w4.heap.size = w.heap.size + 4 ∧ w5.heap.size = w.heap.size + 5 ∧ w6.heap.size = w.heap.size + 6 ∧ w7.heap.size = w.heap.size + 7 ∧ w8.heap.size = w.heap.size + 8 from by omega)
  obtain ⟨ad, had, hat⟩ := steps_at (by rw [hl]; exact hst)
  rw [hl] at had hat
  obtain ⟨f, hf⟩ : ∃ f : Nat → Sv, f = fun j => l[j]?.getD svZ := ⟨_, rfl⟩
  have hff : Hid (∀ k, k < m → l.reverse[k]? = some (f (m - 1 - k)) ∧ f (m - 1 - k) ∈ l ∧ l[m - 1 - k]? = some (f (m - 1 - k))) := Lib.hid fun k hk => by
    have e : l.reverse[k]? = some l[m - 1 - k] := by
      rw [List.getElem?_reverse (by omega), show l.length - 1 - k = m - 1 - k by omega]
      exact List.getElem?_eq_getElem _
    have e2 : f (m - 1 - k) = l[m - 1 - k] := by
      rw [hf]
      simp [List.getElem?_eq_getElem (show m - 1 - k < l.length by omega)]
    rw [e2]
    exact ⟨e, List.getElem_mem _, List.getElem?_eq_getElem _⟩
  have htold := backS_told w7.heap.size c m A ad f w8 b8 (fun h => ⟨(had h).1, by have := (had h).2.2; omega⟩) (by omega) (fun j hj => by rw [hf]; exact (hat j hj).same (k18.block _ (by rw [add_block]; exact (had (by omega)).2.2)))
  have hin : InI x := by
    obtain ⟨_, _, hi, _⟩ := hx
    exact hi
  have hfr : FrB l0 w.heap.size w8.heap.size w8 w5.heap.size 1 1 [x] := by
    refine ⟨rfl, by omega, by omega, by omega, [(x, .slice E x.2.2.length ce)], rfl, ?_, fun p hp => ?_⟩
    · exact own_from5 (b := w5.heap.size) (C := cells5 [(x, .slice E x.2.2.length ce)]) (by omega) ((k78.block _ (by omega)).trans b6) (Nat.le_refl _) (by decide) rfl (by rfl)
    · rw [List.mem_singleton.1 hp]
      obtain ⟨d, e, h1, h2⟩ := hx
      have ed : d = .slice E x.2.2.length ce := by
        unfold itV at e
        simp at e
        exact e.symm
      subst ed
      exact ⟨h1, stab_by _ _ _ _ _ _ (fun a v ha hc => ⟨⟨.inl ha, by have := hlo; omega⟩, (k18.cell (by omega)).trans hc⟩) h2⟩
  have hI0 : GrI l0 lo w.heap.size w8.heap.size w.heap.size w2.heap.size w3.heap.size w4.heap.size w6.heap.size w s x l ([], none) w8 :=
    ⟨rfl, ⟨k18.mono hlo, Nat.le_refl _⟩, ⟨(k48.block _ (by omega)).trans b3, (k58.block _ (by omega)).trans b4, (k68.block _ (by omega)).trans b5⟩, s, [x], qa, qb, qc, qd, w5.heap.size, 1, 1, rfl, (k28.block _ (by omega)).trans b1, h.map fun p v hp hc => ⟨⟨.inl hp, by omega⟩, (k18.cell (by omega)).trans hc⟩,
      (hB8.block _ (by omega)).trans b7, hfr, fun q hqm => (hR.ok q (List.mem_of_mem_take hqm)).2.2.2.same fun k h1 h2 => k18.block k (by have := (hR.ok q (List.mem_of_mem_take hqm)).2.2.1; omega)⟩
  have hlt := Lib.hid (fun h : 0 < m => (had h).2)
  have hAA := Lib.hid (fun h : 0 < m => (had h).1)
  replace hf := Lib.hid hf
  replace hl := Lib.hid hl
  replace hA := Lib.hid hA
  replace hR := Lib.hid hR
  replace hq := Lib.hid hq
  replace hfr := Lib.hid hfr
  replace hin := Lib.hid hin
  replace hs1 := Lib.hid hs1
  replace hs2 := Lib.hid hs2
  replace hs3 := Lib.hid hs3
  replace hs4 := Lib.hid hs4
  replace hs5 := Lib.hid hs5
  replace hs6 := Lib.hid hs6
  replace hs7 := Lib.hid hs7
  replace hs8 := Lib.hid hs8
  replace hI0 := Lib.hid hI0
  clear h hst had hat b1 b2 b3 b4 b5 b6 b7 b8 hB1 hB2 hB3 hB4 hB5 hB6 hB7 hB8 k78 k68 k58 k48 k38 k28 k18 hx hw8
  refine callsIn_wide.1 (callsIn_of_wp_marks (n := 5) Tryz.func27 rfl trivial ?_ rfl)
  simp only [Tryz.ntmps27, List.size_toArray, List.length_cons, List.length_nil, Nat.reduceAdd, Nat.reduceSub, Array.replicate_succ, Array.replicate_zero, List.push_toArray, List.append_toArray, List.nil_append, List.cons_append]
  gi_wp2_with fail
  refine ⟨trivial, ?_⟩
  gi_at_call 45
  refine (callsIn_wide.2 hbw.out).mono ?_
  rintro e w8 ⟨rfl, rfl⟩
  clear i0 i1 i2 i3 i4
  gi_wp2_with fail
  refine range_told (m := 5) (gf := 67) (lb := #[.pointer (some ⟨w7.heap.size, 0, none⟩)]) rfl (enters_of Tryz.func67 (by kernel_rfl) rfl) htold (fun _ => rfl)
    (fun k => k = w.heap.size ∨ k = w2.heap.size ∨ k = w3.heap.size ∨ k = w4.heap.size ∨ k = w6.heap.size ∨ ∃ q ∈ l, q.A.map (·.block) = some k) (fun k e => by
      rcases e with e | e | e | e | e | ⟨q, hq, e⟩
      · have := SZ.out; omega
      · have := SZ.out; omega
      · have := SZ.out; omega
      · have := SZ.out; omega
      · have := SZ.out; omega
      · have h1 := hR.out.ok q hq
        have := row_block h1.2.2.2 k e
        have := SZ.out; omega) none (fun k hk => by
      rcases hk with rfl | ⟨h0, rfl⟩
      · refine ⟨by have := SZ.out; omega, ?_, by simp⟩
        rintro (e | e | e | e | e | ⟨q, hq, e⟩)
        · have := SZ.out; omega
        · have := SZ.out; omega
        · have := SZ.out; omega
        · have := SZ.out; omega
        · have := SZ.out; omega
        · have h1 := hR.out.ok q hq
          have := row_block h1.2.2.2 _ e
          have := SZ.out; omega
      · have := hlt.out h0
        refine ⟨by have := SZ.out; omega, ?_, by simp⟩
        rintro (e | e | e | e | e | ⟨q, hq, e⟩)
        · have := SZ.out; omega
        · have := SZ.out; omega
        · have := SZ.out; omega
        · have := SZ.out; omega
        · have := SZ.out; omega
        · have h1 := hR.out.ok q hq
          have := row_block h1.2.2.2 _ e
          have := hA.out ad.block q (by rw [hAA.out h0]; rfl) hq
          omega)
    (GrI l0 lo w.heap.size w8.heap.size w.heap.size w2.heap.size w3.heap.size w4.heap.size w6.heap.size w s x l) (GrX lo w8.heap.size w2.heap.size w3.heap.size w4.heap.size w s x l)
    (grI_own (by have := SZ.out; omega) (by have := SZ.out; omega) (fun q hq => by have := (hR.out.ok q hq).2.2.1; have := SZ.out; omega)) (fun c => grX_own (by have := SZ.out; omega) (by have := SZ.out; omega))
    (fun r V hr k e => by rw [hr.1] at e; cases e) hI0.out
    (fun x' a' V => ∃ g : Nat, a' = { tmps := #[.agg #[.slice qa.1 qa.2.1 qa.2.2, .slice qb.1 qb.2.1 qb.2.2, .slice qc.1 qc.2.1 qc.2.2, .slice qd.1 qd.2.1 qd.2.2], .slice A m c, itV x (.slice E x.2.2.length ce), .pointer (some ⟨w.heap.size, 0, none⟩), undef, .pointer (some ⟨w1.heap.size, 0, none⟩), .pointer (some ⟨w2.heap.size, 0, none⟩), .pointer (some ⟨w3.heap.size, 0, none⟩), .pointer (some ⟨w4.heap.size, 0, none⟩), .pointer (some ⟨w6.heap.size, 0, none⟩), undef, .pointer (some ⟨g, 0, none⟩), .agg #[.int .u8 (x.1.1.toNat : Int), .int .u32 x.1.2.1, .int .u32 x.1.2.2, .int .i64 x.2.1, .slice E x.2.2.length ce], .slice (some ⟨w5.heap.size, 0, none⟩) 1 1, .slice A m c, .func (.func 67) #[] #[.pointer (some ⟨w7.heap.size, 0, none⟩)], .int .i64 (x' : Int), .agg #[.int .i64 (f x').nd.1, .slice (f x').A (f x').nd.2.length (f x').c, .int .i64 ((f x').pl : Int), .bool (f x').inst], undef, undef, undef, undef, undef, undef, undef, undef, undef, undef, undef, undef, undef, undef, undef, undef, undef, undef, undef, undef, undef, undef, undef, undef, undef, undef, undef, undef, undef, undef, undef, undef, undef, undef, undef, undef, undef, undef, undef], defers := [] } ∧ BoxW g #[.int .i64 (f x').nd.1, .slice (f x').A (f x').nd.2.length (f x').c, .int .i64 ((f x').pl : Int), .bool (f x').inst] 94 V)
    (fun y a' _ A B row hs hg hr => by
      obtain ⟨g, e1, h0⟩ := hs
      exact ⟨g, e1, block_kept h0 hg fun r e => (hr r e).2⟩)
    (fun pre x q => fun _ _ _ _ hs _ _ => hs) ?assign ?body ?done ?stop
  case assign =>
    rintro l' pre' q' x' V K hi hT hK
    obtain ⟨V1, hV1, bV, hVs, hVB⟩ := box_4 V (.int .i64 (f x').nd.1) (.slice (f x').A (f x').nd.2.length (f x').c) (.int .i64 ((f x').pl : Int)) (.bool (f x').inst) 94
    replace hVs := Lib.hid hVs
    clear hi hT
    simp only [encS]
    gi_wp2_with fail
    exact hK _ _ (below_grown hVB) ⟨V.heap.size, rfl, bV⟩
  case body =>
    rintro l' pre' q' x' a' V hVs hI ⟨g, rfl, hg⟩ ⟨hp1, hp2, hp3⟩
    obtain ⟨hqn, ⟨hIb, hIs⟩, ⟨hB6, hB7, hB8⟩, sk, F, pa, pb, pc, pd, fb, mf, fc, hgr, hB3, hSto, hB9, hFr, hrows⟩ := hI
    dsimp only at hqn
    subst hqn
    have hk : pre'.length < m := hp2
    clear hp1
    obtain ⟨hrv, hqm, hqi⟩ := hff.out _ hk
    rw [← hp3] at hrv hqm hqi
    have hst := growA_step (s := sk) (F := F) hrv
    have hidx : Hid (∀ q ∈ l.take (l.length - (pre' ++ [x']).length), q.hi ≤ (f x').lo ∧ q ∈ l.take (l.length - pre'.length)) := Lib.hid fun q hqm' => by
      obtain ⟨i, hi⟩ := List.getElem?_of_mem hqm'
      have hil := (List.getElem?_eq_some_iff.1 hi).1
      rw [List.length_take, List.length_append, hl.out] at hil
      simp only [List.length_cons, List.length_nil] at hil
      rw [List.getElem?_take_of_lt (by rw [hl.out, List.length_append]; simp only [List.length_cons, List.length_nil]; omega)] at hi
      refine ⟨?_, List.mem_of_getElem? (i := i) (by rw [List.getElem?_take_of_lt (by rw [hl.out]; omega)]; exact hi)⟩
      obtain ⟨h1, e1⟩ := List.getElem?_eq_some_iff.1 hi
      obtain ⟨h2, e2⟩ := List.getElem?_eq_some_iff.1 hqi
      have := List.pairwise_iff_getElem.1 hR.out.apart i x' h1 h2 (by omega)
      rw [e1, e2] at this
      exact this
    have hRA : RowAt V (f x') := hrows _ (List.mem_of_getElem? (i := m - 1 - pre'.length) (by rw [List.getElem?_take_of_lt (by rw [hl.out]; show m - 1 - pre'.length < m - pre'.length; omega), ← hp3]; exact hqi))
    have hpl : (pre' ++ [x']).length = pre'.length + 1 := by rw [List.length_append]; rfl
    clear hp3
    generalize f x' = q at *
    obtain ⟨hlv, hq5, hqpl⟩ := hq.out q hqm
    obtain ⟨hql1, hql2, hql3, _⟩ := hR.out.ok q hqm
    have hrow := hRA.use (by have := SZ.out; have := hIs; omega)
    obtain ⟨ps, hps, hpo, hpi⟩ := rowOf_cells hrow
    have hrb := row_block hRA
    have hrbw : ∀ r, q.A.map (·.block) = some r → r < w.heap.size := fun r e => by have := hrb r e; omega
    have hgb : q.A.map (·.block) ≠ some g := fun e => by
      cases hA' : q.A with
      | none => rw [hA'] at e; cases e
      | some a0 =>
        rw [hA'] at e hpo
        obtain ⟨b, C, rfl, _, _, hgg, _⟩ := own_block5 hpo
        obtain rfl : b = g := Option.some.inj e
        unfold BoxW at hg
        rw [hg] at hgg
        simp at hgg
    obtain ⟨qs, hqs, hqo, hqi'⟩ := hFr.row
    have hfb := hFr.at_
    have hmf := hFr.pos
    have hm2 := hFr.few
    have hFl := hFr.len
    obtain ⟨rb, hrbe⟩ : ∃ rb, q.A.map (·.block) = rb := ⟨_, rfl⟩
    rw [hrbe] at hgb hrb hrbw
    have hgV : ∀ W, V.grownBy W rb → ∀ k, k < V.heap.size → rb ≠ some k → W.heap[k]? = V.heap[k]? := fun W hW k h1 h2 => hW.block k h1 (fun e => h2 e.symm)
    have bne : ∀ k, w.heap.size ≤ k → rb ≠ some k := fun k h e => by have := hrbw k e; omega
    have HB3 := Lib.hid (fun W (hW : V.grownBy W rb) => (hgV W hW _ (Array.getElem?_eq_some_iff.1 hB3).1 (bne _ (Nat.le_refl _))).trans hB3)
    have HB9 := Lib.hid (fun W (hW : V.grownBy W rb) => (hgV W hW _ (Array.getElem?_eq_some_iff.1 hB9).1 (bne _ (by have := SZ.out; omega))).trans hB9)
    have HG := Lib.hid (fun W (hW : V.grownBy W rb) => (hgV W hW _ (Array.getElem?_eq_some_iff.1 hg).1 hgb).trans hg)
    have HOut : Hid (∀ W, V.grownBy W rb → ∀ p v, Out l0 w8.heap.size V p → V.cell? p = some v → Out l0 w8.heap.size W p ∧ W.cell? p = some v) := Lib.hid fun W hW p v hp hc => by
      have hb := hgV W hW p.block hp.2 (fun e => by have h1 := hrb _ e; have h2 := hrbw _ e; rcases hp.1 with h | h <;> have := SZ.out <;> omega)
      exact ⟨⟨hp.1, by have := hp.2; have := hW.size; omega⟩, (World.cell?_of_block hb).trans hc⟩
    have HF : Hid (∀ W, V.grownBy W rb → rIts (Old W) W [.slice (some ⟨fb, 0, none⟩) mf fc] F) := Lib.hid fun W hW => by
      have hF2 := hFr.same (w' := W) hW.size fun k h1 h2 => hgV W hW k h1 (fun e => by have h3 := hrb _ e; have h4 := hrbw _ e; rcases h2 with h | h | h <;> have := SZ.out <;> omega)
      obtain ⟨zs, e1, e2, e3⟩ := hF2.row
      have := its_of5 e2 (fun p hp => ⟨(e3 p hp).1, stab_by _ _ _ _ _ _ (fun a v ha hc => ⟨ha.2, hc⟩) (e3 p hp).2⟩)
      rwa [e1] at this
    have HS := Lib.hid (fun W (hW : V.grownBy W rb) => (hSto.map fun p v hp hc => ⟨((HOut.out W hW p v hp hc).1).2, (HOut.out W hW p v hp hc).2⟩ : Sto (Old W) W (.agg #[.slice pa.1 pa.2.1 pa.2.2, .slice pb.1 pb.2.1 pb.2.2, .slice pc.1 pc.2.1 pc.2.2, .slice pd.1 pd.2.1 pd.2.2]) sk))
    obtain ⟨LL, hLL⟩ : ∃ LL, itemsS q F = LL := ⟨_, rfl⟩
    have hmap : (ps.take q.pl ++ (qs ++ ps.drop (q.pl + if q.inst = true then 1 else 0))).map (·.1) = LL := by
      rw [← hLL, List.map_append, List.map_append, List.map_take, List.map_drop, hps, hqs]
      rfl
    have hLlen : (ps.take q.pl ++ (qs ++ ps.drop (q.pl + if q.inst = true then 1 else 0))).length = LL.length := by rw [← hmap, List.length_map]
    have HI : Hid (Calls Tryz.prog 47 #[.agg #[.int .i64 q.nd.1, .slice q.A q.nd.2.length q.c, .int .i64 (q.pl : Int), .bool q.inst], .slice (some ⟨fb, 0, none⟩) mf fc] V.drew fun e W => V.grownBy W rb ∧ V.heap.size < W.heap.size ∧ ∃ A' c', e = .returned (.slice A' LL.length c') ∧ rIts (Old W) W [.slice A' LL.length c'] LL) := Lib.hid (by
      refine (stepItems_any q.A q.lo w.heap.size q.nd.2.length q.c fb mf fc q.pl q.nd.1 q.inst ps qs V.drew hpo hqo (by rw [hrbe]; exact bne _ hfb) hqpl hmf (by omega) (ivs_one hpi) (ivs_one hqi') (by have := SZ.out; have := hIs; show q.lo ≤ V.heap.size; omega)).mono ?_
      rintro e W ⟨⟨A', c', rfl, ho, hgW⟩, hsz⟩
      rw [hLlen] at ho ⊢
      have hgW' : V.grownBy W rb := by rw [← hrbe]; exact grown_drew hgW
      refine ⟨hgW', hsz, A', c', rfl, ?_⟩
      have := its_of5 ho (fun p hp => ?_)
      · rwa [hmap] at this
      · have hnb : ∀ a : Addr, ∀ v, NewBut q.lo q.A V a → V.cell? a = some v → Old W a ∧ W.cell? a = some v := fun a v ha hc => by
          have hb := hgV W hgW' a.block ha.1.2.1 (fun e => ha.2 (by rw [hrbe]; exact e))
          exact ⟨by unfold Old; have := ha.1.2.1; have := hgW'.size; omega, (World.cell?_of_block hb).trans hc⟩
        rcases List.mem_append.1 hp with hp | hp
        · exact ⟨(hpi p (List.mem_of_mem_take hp)).1, stab_by _ _ _ _ _ _ hnb (hpi p (List.mem_of_mem_take hp)).2⟩
        · rcases List.mem_append.1 hp with hp | hp
          · exact ⟨(hqi' p hp).1, stab_by _ _ _ _ _ _ (fun a v ha hc => ⟨((HOut.out W hgW' a v ha hc).1).2, (HOut.out W hgW' a v ha hc).2⟩) (hqi' p hp).2⟩
          · exact ⟨(hpi p (List.mem_of_mem_drop hp)).1, stab_by _ _ _ _ _ _ hnb (hpi p (List.mem_of_mem_drop hp)).2⟩)
    have hL0 : 0 < LL.length := by
      rw [← hLL]
      unfold itemsS
      simp only [List.length_append]
      omega
    have HL : Hid (∀ W A' c', V.grownBy W rb → rIts (Old W) W [.slice A' LL.length c'] LL → Calls Tryz.prog 46 #[.agg #[.slice pa.1 pa.2.1 pa.2.2, .slice pb.1 pb.2.1 pb.2.2, .slice pc.1 pc.2.1 pc.2.2, .slice pd.1 pd.2.1 pd.2.2], .int .i64 q.nd.1, .slice A' LL.length c', .slice (some ⟨fb, 0, none⟩) mf fc] W (LayR sk q.nd.1 LL F W)) := Lib.hid fun W A' c' hW hI => lay_any pa pb pc pd sk q.nd.1 hlv A' LL.length c' LL (some ⟨fb, 0, none⟩) mf fc F W (HS.out W hW) hI (HF.out W hW) rfl hL0 hFl (by omega)
    rw [hLL] at hst
    have hsm := Lib.hid (fun h : (layO sk q.nd.1 LL F).1 = 0 => lay_some h)
    obtain ⟨er, her⟩ : ∃ e, (layO sk q.nd.1 LL F).1 = e := ⟨_, rfl⟩
    obtain ⟨S', hS'⟩ : ∃ e, (layO sk q.nd.1 LL F).2.1 = e := ⟨_, rfl⟩
    obtain ⟨up, hup⟩ : ∃ e, (layO sk q.nd.1 LL F).2.2 = e := ⟨_, rfl⟩
    unfold LayR at HL
    rw [her, hS', hup] at hst HL
    rw [her, hup] at hsm
    obtain ⟨len, hlen⟩ : ∃ e, LL.length = e := ⟨_, rfl⟩
    rw [hlen] at HI HL hL0
    obtain ⟨nu, hnu⟩ : ∃ e, up.length = e := ⟨_, rfl⟩
    rw [hnu] at HL hsm
    have hqr := Lib.hid hrows
    have hIb' := Lib.hid hIb
    have hIs' := Lib.hid hIs
    have hrb' := Lib.hid hrb
    have hrbw' := Lib.hid hrbw
    have hgV' := Lib.hid hgV
    have hb6 := Lib.hid hB6
    have hb7 := Lib.hid hB7
    have hb8 := Lib.hid hB8
    replace hst := Lib.hid hst
    replace hgr := Lib.hid hgr
    replace hpl := Lib.hid hpl
    replace her := Lib.hid her
    replace hS' := Lib.hid hS'
    replace hup := Lib.hid hup
    replace hlen := Lib.hid hlen
    replace hnu := Lib.hid hnu
    replace hrbe := Lib.hid hrbe
    replace hrv := Lib.hid hrv
    replace hqm := Lib.hid hqm
    replace hk := Lib.hid hk
    replace hlv := Lib.hid hlv
    clear hrows hIb hIs hrb hrbw hgV hB6 hB7 hB8 hB3 hB9 hg hSto hFr hqs hqo hqi' hps hpo hpi hmap hLlen hLL hRA hrow hgb bne hqpl hq5 hqi hfb hmf hm2 hFl hL0
    generalize q.nd.1 = q1 at *
    generalize q.nd.2.length = q3 at *
    gi_wp2_with fail
    refine wpIn_onlyN ?_
    refine wpIn_region_lateB ⟨fun W W' => Below W.heap.size W W' ∨ (W = V.drew ∧ V.grownBy W' rb ∧ V.heap.size < W'.heap.size), 6, fun W => W = V.drew⟩ (ops' := ?opsLate) (by kernel_rfl) [(13, 11), (13, 12), (14, 12)] ?he (by kernel_rfl) (by kernel_rfl) (fun _ _ _ _ _ h => h) (fun ⟨_, _, h⟩ => h) 13 (fun W => V.grownBy W rb) (fun i => match i with
      | 6 => some (PhI V len LL)
      | 8 => some (PhL V nu er S' up)
      | 9 => some (PhL V nu er S' up)
      | 10 => some (PhS V S')
      | 11 => some (PhM V nu up)
      | _ => none) (fun i => match i with
      | 12 => some (.int .i64 er)
      | _ => none) ?h1 ?h2 ?h3 rfl ?hon ⟨rfl, rfl, rfl, Nat.le_refl _, fun _ _ _ => rfl⟩ ?hcb ?tst ?_
    case he =>
      simp [withEdges]
      rfl
    case h1 => decide
    case h2 => kernel_rfl
    case h3 => kernel_rfl
    case hon => kernel_rfl
    case hcb =>
      intro W W' h hr
      rcases hr with hb | ⟨_, hg, _⟩
      · exact grow_below h hb
      · exact hg
    case tst =>
      intro j φ v W W' hp hx hr
      have hbl : V.heap.size < W.heap.size → Below W.heap.size W W' := fun h => by
        rcases hr with hb | ⟨rfl, _⟩
        · exact hb
        · exact absurd h (Nat.lt_irrefl _)
      match j, hp with
      | 6, hp =>
        cases hp
        obtain ⟨h0, A', c', e, h1⟩ := hx
        exact ⟨Nat.lt_of_lt_of_le h0 (hbl h0).size, A', c', e, stab_its.old h1 (hbl h0)⟩
      | 8, hp =>
        cases hp
        obtain ⟨h0, qa, qb, qc, qd, M, mc, e, h1, h2⟩ := hx
        exact ⟨Nat.lt_of_lt_of_le h0 (hbl h0).size, qa, qb, qc, qd, M, mc, e, h1.new (Nat.le_refl _) (hbl h0), h2.below stab_it (hbl h0)⟩
      | 9, hp =>
        cases hp
        obtain ⟨h0, qa, qb, qc, qd, M, mc, e, h1, h2⟩ := hx
        exact ⟨Nat.lt_of_lt_of_le h0 (hbl h0).size, qa, qb, qc, qd, M, mc, e, h1.new (Nat.le_refl _) (hbl h0), h2.below stab_it (hbl h0)⟩
      | 10, hp =>
        cases hp
        obtain ⟨h0, qa, qb, qc, qd, e, h1⟩ := hx
        exact ⟨Nat.lt_of_lt_of_le h0 (hbl h0).size, qa, qb, qc, qd, e, h1.new (Nat.le_refl _) (hbl h0)⟩
      | 11, hp =>
        cases hp
        obtain ⟨h0, M, mc, e, h2⟩ := hx
        exact ⟨Nat.lt_of_lt_of_le h0 (hbl h0).size, M, mc, e, h2.below stab_it (hbl h0)⟩
    simp only [List.take_succ_cons, List.take_zero, List.drop_succ_cons, List.drop_zero]
    repeat (first
      | (refine Rk.wpAs_skip rfl ?_; simp only [Act.put, List.setIfInBounds_toArray, List.set_cons_zero, List.set_cons_succ])
      | (refine Rk.wpAs_pure (v := ?_) rfl rfl ?_ ?_; rotate_left; (intro W hC hE; clear hE; (obtain ⟨k0, k1, k2, k3, _⟩ := four_cells (HB3.out W hC); obtain ⟨g0, g1, g2, g3, _⟩ := four_cells (HG.out W hC); obtain ⟨n0, _⟩ := one_cell (HB9.out W hC)); clear hC; go_simp; done); simp only [Act.put, List.setIfInBounds_toArray, List.set_cons_zero, List.set_cons_succ])
      | (refine Rk.wpAs_pure (v := ?_) rfl rfl ?_ ?_; rotate_left; (intro W hC hE; clear hE; (obtain ⟨k0, k1, k2, k3, _⟩ := four_cells (HB3.out W hC); obtain ⟨g0, g1, g2, g3, _⟩ := four_cells (HG.out W hC); obtain ⟨n0, _⟩ := one_cell (HB9.out W hC)); clear hC; go_simp; with_reducible rfl); simp only [Act.put, List.setIfInBounds_toArray, List.set_cons_zero, List.set_cons_succ]))
    refine Rk.wpAs_act rfl rfl ?_ ?_
    · intro W hC hk6 hE
      obtain rfl := hk6 rfl
      clear hE
      refine Rk.does_enter (f := 47) (args := #[.agg #[.int .i64 q1, .slice q.A q3 q.c, .int .i64 (q.pl : Int), .bool q.inst], .slice (some ⟨fb, 0, none⟩) mf fc]) ?_ ?_
      · go_simp
      · refine (HI.out).mono ?_
        rintro e W' ⟨h1, h2, A', c', rfl, h3⟩
        exact ⟨_, rfl, ⟨h2, A', c', rfl, h3⟩, .inr ⟨rfl, h1, h2⟩⟩
    simp only [Act.put, List.setIfInBounds_toArray, List.set_cons_zero, List.set_cons_succ, Rk.envAdd]
    intro x25
    repeat (first
      | (refine Rk.wpAs_skip rfl ?_; simp only [Act.put, List.setIfInBounds_toArray, List.set_cons_zero, List.set_cons_succ])
      | (refine Rk.wpAs_pure (v := ?_) rfl rfl ?_ ?_; rotate_left; (intro W hC hE; clear hE; (obtain ⟨n0, _⟩ := one_cell (HB9.out W hC)); clear hC; go_simp; done); simp only [Act.put, List.setIfInBounds_toArray, List.set_cons_zero, List.set_cons_succ])
      | (refine Rk.wpAs_pure (v := ?_) rfl rfl ?_ ?_; rotate_left; (intro W hC hE; clear hE; (obtain ⟨n0, _⟩ := one_cell (HB9.out W hC)); clear hC; go_simp; with_reducible rfl); simp only [Act.put, List.setIfInBounds_toArray, List.set_cons_zero, List.set_cons_succ]))
    refine Rk.wpAs_act rfl rfl ?_ ?_
    · intro W hC _ hE
      obtain ⟨h0, A', c', rfl, hI⟩ := hE.1 _ rfl rfl
      clear hE
      refine Rk.does_enter (f := 46) (args := #[.agg #[.slice pa.1 pa.2.1 pa.2.2, .slice pb.1 pb.2.1 pb.2.2, .slice pc.1 pc.2.1 pc.2.2, .slice pd.1 pd.2.1 pd.2.2], .int .i64 q1, .slice A' len c', .slice (some ⟨fb, 0, none⟩) mf fc]) ?_ ?_
      · clear hI
        go_simp
      · refine (HL.out W A' c' hC hI).mono ?_
        rintro e W' ⟨qa, qb, qc, qd, M, mc, rfl, h1, h2, hb⟩
        exact ⟨_, rfl, ⟨Nat.lt_of_lt_of_le h0 hb.size, qa, qb, qc, qd, M, mc, rfl, h1.new (Nat.le_of_lt h0) (Below.refl _ _), h2.low stab_it (Nat.le_of_lt h0)⟩, .inl hb⟩
    simp only [Act.put, List.setIfInBounds_toArray, List.set_cons_zero, List.set_cons_succ, Rk.envAdd]
    intro x27
    refine Rk.wpAs_act rfl rfl ?_ ?_
    · intro W hC _ hE
      have hx : Hid (PhL V nu er S' up x27 W) := Lib.hid (hE.1 _ rfl rfl)
      clear hE
      go_simp
      exact ⟨hx.out, .inl (Below.refl _ _)⟩
    simp only [Act.put, List.setIfInBounds_toArray, List.set_cons_zero, List.set_cons_succ, Rk.envAdd]
    intro x18
    refine Rk.wpAs_act rfl rfl ?_ ?_
    · intro W hC _ hE
      obtain ⟨h0, qa, qb, qc, qd, M, mc, rfl, h1, h2⟩ := hE.1 _ rfl rfl
      clear hE
      have H1 := Lib.hid h1
      have H0 := Lib.hid h0
      clear h1 h2 h0
      go_simp
      exact ⟨⟨H0.out, qa, qb, qc, qd, rfl, H1.out⟩, .inl (Below.refl _ _)⟩
    simp only [Act.put, List.setIfInBounds_toArray, List.set_cons_zero, List.set_cons_succ, Rk.envAdd]
    intro x28
    refine Rk.wpAs_act rfl rfl ?_ ?_
    · intro W hC _ hE
      obtain ⟨h0, qa, qb, qc, qd, M, mc, rfl, h1, h2⟩ := hE.2.1 _ rfl rfl
      clear hE
      have H2 := Lib.hid h2
      have H0 := Lib.hid h0
      clear h1 h2 h0
      go_simp
      exact ⟨⟨H0.out, M, mc, rfl, H2.out⟩, .inl (Below.refl _ _)⟩
    simp only [Act.put, List.setIfInBounds_toArray, List.set_cons_zero, List.set_cons_succ, Rk.envAdd]
    intro x29
    refine Rk.wpAs_fixed rfl rfl rfl ?_ ?_
    · intro W hC hE
      obtain ⟨h0, qa, qb, qc, qd, M, mc, rfl, h1, h2⟩ := hE.2.2.1 _ rfl rfl
      clear hE h0 h1 h2
      go_simp
      exact ⟨rfl, .inl (Below.refl _ _)⟩
    simp only [Act.put, List.setIfInBounds_toArray, List.set_cons_zero, List.set_cons_succ]
    repeat (first
      | (refine Rk.wpAs_skip rfl ?_; simp only [Act.put, List.setIfInBounds_toArray, List.set_cons_zero, List.set_cons_succ])
      | (refine Rk.wpAs_pure (v := ?_) rfl rfl ?_ ?_; rotate_left; (intro W hC hE; clear hE; skip; clear hC; go_simp; done); simp only [Act.put, List.setIfInBounds_toArray, List.set_cons_zero, List.set_cons_succ])
      | (refine Rk.wpAs_pure (v := ?_) rfl rfl ?_ ?_; rotate_left; (intro W hC hE; clear hE; skip; clear hC; go_simp; with_reducible rfl); simp only [Act.put, List.setIfInBounds_toArray, List.set_cons_zero, List.set_cons_succ]))
    refine Rk.wpAs_end fun W hC hE => ?_
    obtain ⟨⟨h0, M, mc, rfl, hrow⟩, ⟨_, va, vb, vc, vd, rfl, hS⟩, _⟩ := hE
    have hWs := hC.size
    have keep : ∀ k, w.heap.size ≤ k → k < V.heap.size → W.heap[k]? = V.heap[k]? := fun k h1 h2 => hgV'.out W hC k h2 (fun e => by have := hrbw'.out k e; omega)
    have c3 := HB3.out W hC
    have c9 := HB9.out W hC
    have c8 : BoxW w4.heap.size #[.int .i64 0] 33 W := (keep _ (by have := SZ.out; omega) (Array.getElem?_eq_some_iff.1 hb8.out).1).trans hb8.out
    have c6 : BoxW w2.heap.size #[.slice none 0 0, .slice none 0 0, .slice none 0 0, .slice none 0 0] 29 W := (keep _ (by have := SZ.out; omega) (Array.getElem?_eq_some_iff.1 hb6.out).1).trans hb6.out
    have c7 : BoxW w3.heap.size #[.int .i64 0] 3 W := (keep _ (by have := SZ.out; omega) (Array.getElem?_eq_some_iff.1 hb7.out).1).trans hb7.out
    obtain ⟨W1, hW1, d3, gr1, gs1⟩ := put_four (a' := .slice va.1 va.2.1 va.2.2) (b' := .slice vb.1 vb.2.1 vb.2.2) (c' := .slice vc.1 vc.2.1 vc.2.2) (d' := .slice vd.1 vd.2.1 vd.2.2) c3
    have c91 : BoxW w6.heap.size _ 43 W1 := (gr1.block _ (Array.getElem?_eq_some_iff.1 c9).1 (fun e => by have := Option.some.inj e; have := SZ.out; omega)).trans c9
    obtain ⟨W2, hW2, d9, gr2, gs2⟩ := put_one (u := .slice M nu mc) c91
    have c82 : BoxW w4.heap.size #[.int .i64 0] 33 W2 := (gr2.block _ (by rw [gs1]; exact (Array.getElem?_eq_some_iff.1 c8).1) (fun e => by have := Option.some.inj e; have := SZ.out; omega)).trans ((gr1.block _ (Array.getElem?_eq_some_iff.1 c8).1 (fun e => by have := Option.some.inj e; have := SZ.out; omega)).trans c8)
    obtain ⟨W3, hW3, d8, gr3, gs3⟩ := put_one (u := .int .i64 er) c82
    obtain ⟨m0, m1, m2, m3, mf, _⟩ := four_cells c3
    obtain ⟨n0, nf, _⟩ := one_cell c91
    obtain ⟨y0, yf, _⟩ := one_cell c82
    obtain ⟨y3, _, _⟩ := one_cell d8
    have all3 : ∀ k, k < W.heap.size → k ≠ w.heap.size → k ≠ w6.heap.size → k ≠ w4.heap.size → W3.heap[k]? = W.heap[k]? := fun k h1 h2 h3 h4 =>
      (gr3.block k (by omega) (fun e => h4 (Option.some.inj e))).trans ((gr2.block k (by omega) (fun e => h3 (Option.some.inj e))).trans (gr1.block k h1 (fun e => h2 (Option.some.inj e))))
    have hs3' : W3.heap.size = W.heap.size := by omega
    have kpt : Hid (Kept (fun k => k = w.heap.size ∨ k = w2.heap.size ∨ k = w3.heap.size ∨ k = w4.heap.size ∨ k = w6.heap.size ∨ ∃ q ∈ l, q.A.map (·.block) = some k) none none V W3) := Lib.hid ((((Kept.refl _ _ _).grown hC fun r e => .inr (.inr (.inr (.inr (.inr (.inr ⟨q, hqm.out, by rw [hrbe.out, e]⟩)))))).grown gr1 fun r e => by cases e; exact .inr (.inl rfl)).grown gr2 (fun r e => by cases e; exact .inr (.inr (.inr (.inr (.inr (.inl rfl)))))) |>.grown gr3 fun r e => by cases e; exact .inr (.inr (.inr (.inr (.inl rfl)))))
    have hrlo : ∀ r, rb = some r → lo ≤ r := fun r e => by have := hrb'.out r e; omega
    have hb3 : Hid (Below lo w W3 ∧ w8.heap.size ≤ W3.heap.size) := Lib.hid ⟨(((hIb'.out.grown hC (by have := hIs'.out; have := SZ.out; omega) hrlo).grown gr1 (by have := hIs'.out; have := SZ.out; omega) (fun k e => by cases e; omega)).grown gr2 (by have := hIs'.out; have := SZ.out; omega) (fun k e => by cases e; have := SZ.out; omega)).grown gr3 (by have := hIs'.out; have := SZ.out; omega) (fun k e => by cases e; have := SZ.out; omega), by have := hIs'.out; omega⟩
    have z6 : Hid (BoxW w2.heap.size #[.slice none 0 0, .slice none 0 0, .slice none 0 0, .slice none 0 0] 29 W3) := Lib.hid ((all3 _ (Array.getElem?_eq_some_iff.1 c6).1 (by have := SZ.out; omega) (by have := SZ.out; omega) (by have := SZ.out; omega)).trans c6)
    have z7 : Hid (BoxW w3.heap.size #[.int .i64 0] 3 W3) := Lib.hid ((all3 _ (Array.getElem?_eq_some_iff.1 c7).1 (by have := SZ.out; omega) (by have := SZ.out; omega) (by have := SZ.out; omega)).trans c7)
    have z8 : Hid (BoxW w4.heap.size #[.int .i64 er] 33 W3) := Lib.hid d8
    have z3 : Hid (BoxW w.heap.size #[.slice va.1 va.2.1 va.2.2, .slice vb.1 vb.2.1 vb.2.2, .slice vc.1 vc.2.1 vc.2.2, .slice vd.1 vd.2.1 vd.2.2] 29 W3) := Lib.hid ((gr3.block _ (by have := SZ.out; have := hIs'.out; omega) (fun e => by have := Option.some.inj e; have := SZ.out; omega)).trans ((gr2.block _ (by have := SZ.out; have := hIs'.out; omega) (fun e => by have := Option.some.inj e; have := SZ.out; omega)).trans d3))
    have z9 : Hid (BoxW w6.heap.size #[.slice M nu mc] 43 W3) := Lib.hid ((gr3.block _ (by have := SZ.out; have := hIs'.out; omega) (fun e => by have := Option.some.inj e; have := SZ.out; omega)).trans d9)
    have big : ∀ k, V.heap.size ≤ k → k < W.heap.size → W3.heap[k]? = W.heap[k]? := fun k h1 h2 => all3 k h2 (by have := hIs'.out; have := SZ.out; omega) (by have := hIs'.out; have := SZ.out; omega) (by have := hIs'.out; have := SZ.out; omega)
    have hS3 : Hid (Sto (Out l0 w8.heap.size W3) W3 (.agg #[.slice va.1 va.2.1 va.2.2, .slice vb.1 vb.2.1 vb.2.2, .slice vc.1 vc.2.1 vc.2.2, .slice vd.1 vd.2.1 vd.2.2]) S') := Lib.hid (hS.map fun p v hp hc => ⟨⟨.inr (by have := hIs'.out; have := hp.1; omega), by have := hp.2.1; omega⟩, (World.cell?_of_block (big _ hp.1 hp.2.1)).trans hc⟩)
    have hF3 : Hid (0 < nu → nu ≤ 2 → ∃ fb', M = some ⟨fb', 0, none⟩ ∧ FrB l0 w.heap.size w8.heap.size W3 fb' nu mc up) := Lib.hid fun h1 h2 => by
      obtain ⟨zs, e1, e2, e3⟩ := rowOf_cells hrow
      rw [hnu.out] at e2
      obtain ⟨ad', rfl⟩ : ∃ ad', M = some ad' := by
        obtain ⟨_, _, e, _, _, _, h5⟩ := own_any e2
        cases e
        exact h5 h1
      obtain ⟨b, C, rfl, hb1, hb2, hg1, hn1, hn2, hn3, hn4⟩ := own_block5 e2
      refine ⟨b, rfl, hnu.out, h1, h2, by have := hIs'.out; have := SZ.out; omega, zs, e1, own_from5 (by have := hIs'.out; have := SZ.out; omega) ((big b hb1 hb2).trans hg1) hn1 hn2 hn3 hn4, fun p hp => ⟨(e3 p hp).1, stab_by _ _ _ _ _ _ (fun a v ha hc => ⟨⟨.inr (by have := hIs'.out; have := ha.1.1; omega), by have := ha.1.2.1; omega⟩, (World.cell?_of_block (big _ ha.1.1 ha.1.2.1)).trans hc⟩) (e3 p hp).2⟩⟩
    have hR3 : Hid (∀ q' ∈ l.take (l.length - (pre' ++ [x']).length), RowAt W3 q') := Lib.hid fun q' hq' => by
      obtain ⟨h1, h2⟩ := hidx.out q' hq'
      refine (hqr.out q' h2).same fun k h3 h4 => ?_
      have h5 := (hR.out.ok q' (List.mem_of_mem_take h2)).2.2.1
      rw [all3 k (by have := SZ.out; have := hIs'.out; omega) (by omega) (by have := SZ.out; omega) (by have := SZ.out; omega)]
      exact hgV'.out W hC k (by have := SZ.out; have := hIs'.out; omega) (fun e => by have := hrb'.out k e; omega)
    have hgA : Hid (growA l.reverse s [x] = if er = 0 then growA (l.reverse.drop (pre' ++ [x']).length) S' up else (er, emptyR, [])) := Lib.hid (by rw [hpl.out, hgr.out, hst.out])
    replace all3 := Lib.hid all3
    replace hs3' := Lib.hid hs3'
    replace d3 := Lib.hid d3
    replace d8 := Lib.hid d8
    replace d9 := Lib.hid d9
    replace gr1 := Lib.hid gr1
    replace gr2 := Lib.hid gr2
    replace gr3 := Lib.hid gr3
    replace hWs := Lib.hid hWs
    replace gs1 := Lib.hid gs1
    replace gs2 := Lib.hid gs2
    replace gs3 := Lib.hid gs3
    clear keep c3 c9 c8 c6 c7 c91 c82 big hrow hS h0 hrlo hC
    go_wp2_with fail
    simp only [onlyN]
    by_cases he0 : er = 0
    · have hgo : Hid (growA l.reverse s [x] = growA (l.reverse.drop (pre' ++ [x']).length) S' up) := Lib.hid (by rw [hgA.out, if_pos he0])
      obtain ⟨hu1, hu2⟩ := hsm.out he0
      obtain ⟨fb', rfl, hfr'⟩ := hF3.out hu1 hu2
      have hfin : Hid (GrI l0 lo w.heap.size w8.heap.size w.heap.size w2.heap.size w3.heap.size w4.heap.size w6.heap.size w s x l (pre' ++ [x'], none) W3) := Lib.hid ⟨rfl, hb3.out, ⟨z6.out, z7.out, by have := z8.out; rwa [he0] at this⟩, S', up, va, vb, vc, vd, fb', nu, mc, hgo.out, z3.out, hS3.out, z9.out, hfr', hR3.out⟩
      subst he0
      clear hfr'
      gi_wp2_with fail
      exact ⟨none, kpt.out.wide fun k _ h => by simpa using h, hfin.out⟩
    · have t0 : (er != 0) = true := by simpa using he0
      have hgo : Hid (growA l.reverse s [x] = (er, emptyR, [])) := Lib.hid (by rw [hgA.out, if_neg he0])
      replace he0 := Lib.hid he0
      have e6 := z6.out
      have e7 := z7.out
      have e8 := z8.out
      obtain ⟨m0, m1, m2, m3, mf, _⟩ := four_cells e6
      obtain ⟨n0, nf, _⟩ := one_cell e7
      obtain ⟨y0, yf, _⟩ := one_cell e8
      have S6 := Lib.hid (show ∀ W : World, W = W3.drew → (((W.setCell ⟨w2.heap.size, 0, none⟩ (.slice none 0 0)).setCell ⟨w2.heap.size, 1, none⟩ (.slice none 0 0)).setCell ⟨w2.heap.size, 2, none⟩ (.slice none 0 0)).setCell ⟨w2.heap.size, 3, none⟩ (.slice none 0 0) = W from fun W e => by
        subst e
        rw [setCell_self (W := W3.drew) e6 rfl, setCell_self (W := W3.drew) e6 rfl, setCell_self (W := W3.drew) e6 rfl, setCell_self (W := W3.drew) e6 rfl])
      have S7 := Lib.hid (show ∀ W : World, W = W3.drew → W.setCell ⟨w3.heap.size, 0, none⟩ (.int .i64 0) = W from fun W e => by subst e; exact setCell_self (W := W3.drew) e7 rfl)
      have S8 := Lib.hid (show ∀ W : World, W = W3.drew → W.setCell ⟨w4.heap.size, 0, none⟩ (.int .i64 er) = W from fun W e => by subst e; exact setCell_self (W := W3.drew) e8 rfl)
      have hfin : Hid (GrX lo w8.heap.size w2.heap.size w3.heap.size w4.heap.size w s x l .ret (pre' ++ [x'], none) W3.drew) := Lib.hid ⟨rfl, rfl, ⟨hb3.out.1.drew, hb3.out.2⟩, er, e6, e7, e8, hgo.out, he0.out⟩
      have kp3 : Hid (Kept (fun k => k = w.heap.size ∨ k = w2.heap.size ∨ k = w3.heap.size ∨ k = w4.heap.size ∨ k = w6.heap.size ∨ ∃ q ∈ l, q.A.map (·.block) = some k) none none V W3.drew) := Lib.hid ⟨kpt.out.size, kpt.out.same⟩
      clear e6 e7 e8
      gi_wp2_with fail
      refine wpIn_onlyN ?_
      clear m0 m1 m2 m3 mf n0 nf y0 yf
      refine wpIn_region_lateB ⟨fun W W' => W' = W, 2, fun _ => True⟩ (ops' := ?opsLate6) (by kernel_rfl) [] ?he6 (by kernel_rfl) (by kernel_rfl) (fun _ _ _ _ _ h => h) (fun ⟨_, _, h⟩ => h) 5 (fun W => W = W3.drew) (fun _ => none) (fun i => match i with
        | 2 => some undef
        | 3 => some undef
        | 4 => some undef
        | _ => none) ?h61 ?h62 ?h63 trivial ?hon6 rfl (fun _ _ h e => e.trans h) (fun _ _ _ _ _ hp => by cases hp) ?_
      case he6 =>
        simp [withEdges]
        rfl
      case h61 => decide
      case h62 => kernel_rfl
      case h63 => kernel_rfl
      case hon6 => kernel_rfl
      simp only [List.take_succ_cons, List.take_zero, List.drop_succ_cons, List.drop_zero]
      repeat (first
        | (refine Rk.wpAs_skip rfl ?_; simp only [Act.put, List.setIfInBounds_toArray, List.set_cons_zero, List.set_cons_succ])
        | (refine Rk.wpAs_pure (v := ?_) rfl rfl ?_ ?_; rotate_left; (intro W hC hE; clear hE; (have hC' := hC; subst hC'; obtain ⟨y0, yf, _⟩ := one_cell z8.out); clear hC; go_simp; done); simp only [Act.put, List.setIfInBounds_toArray, List.set_cons_zero, List.set_cons_succ])
        | (refine Rk.wpAs_pure (v := ?_) rfl rfl ?_ ?_; rotate_left; (intro W hC hE; clear hE; (have hC' := hC; subst hC'; obtain ⟨y0, yf, _⟩ := one_cell z8.out); clear hC; go_simp; with_reducible rfl); simp only [Act.put, List.setIfInBounds_toArray, List.set_cons_zero, List.set_cons_succ]))
      refine Rk.wpAs_fixed rfl rfl rfl ?_ ?_
      · intro W hC hE
        clear hE
        have hh := Lib.hid (S6.out W hC)
        have e6 : BoxW w2.heap.size #[.slice none 0 0, .slice none 0 0, .slice none 0 0, .slice none 0 0] 29 W := by rw [hC]; exact z6.out
        obtain ⟨m0, m1, m2, m3, mf, _⟩ := four_cells e6
        clear hC e6
        go_simp
        first | exact ⟨rfl, hh.out⟩ | exact hh.out
      simp only [Act.put]
      refine Rk.wpAs_fixed rfl rfl rfl ?_ ?_
      · intro W hC hE
        clear hE
        have hh := Lib.hid (S7.out W hC)
        have e6 : BoxW w3.heap.size #[.int .i64 0] 3 W := by rw [hC]; exact z7.out
        obtain ⟨m0, mf, _⟩ := one_cell e6
        clear hC e6
        go_simp
        first | exact ⟨rfl, hh.out⟩ | exact hh.out
      simp only [Act.put]
      refine Rk.wpAs_fixed rfl rfl rfl ?_ ?_
      · intro W hC hE
        clear hE
        have hh := Lib.hid (S8.out W hC)
        have e6 : BoxW w4.heap.size #[.int .i64 er] 33 W := by rw [hC]; exact z8.out
        obtain ⟨m0, mf, _⟩ := one_cell e6
        clear hC e6
        go_simp
        first | exact ⟨rfl, hh.out⟩ | exact hh.out
      simp only [Act.put]
      refine Rk.wpAs_end fun W hC hE => ?_
      subst hC
      go_wp2_with fail
      simp only [onlyN]
      gi_wp2_with fail
      exact ⟨none, kp3.out.wide fun k _ h => by simpa using h, hfin.out⟩
  case done =>
    rintro xs q' V hVs rfl ⟨_, ⟨hIb, hIs⟩, ⟨hB6, hB7, hB8⟩, sk, F, pa, pb, pc, pd, fb, mf, fc, hgr, hB3, hSto, hB9, hFr, _⟩ hDV hqV
    have hgA : Hid (growA l.reverse s [x] = (0, sk, F)) := Lib.hid (by
      rw [hgr, downs_length, List.drop_of_length_le (by rw [List.length_reverse, hl.out]; exact Nat.le_refl _)]
      rfl)
    have hmf := hFr.pos
    have hm2 := hFr.few
    have hFl := hFr.len
    have hD1 := Lib.hid hDV
    have hIts : rIts (Old V) V [.slice (some ⟨fb, 0, none⟩) mf fc] F := by
      obtain ⟨zs, e1, e2, e3⟩ := hFr.row
      have := its_of5 e2 (fun p hp => ⟨(e3 p hp).1, stab_by _ _ _ _ _ _ (fun a v ha hc => ⟨ha.2, hc⟩) (e3 p hp).2⟩)
      rwa [e1] at this
    have hSV : Sto (Old V) V (.agg #[.slice pa.1 pa.2.1 pa.2.2, .slice pb.1 pb.2.1 pb.2.2, .slice pc.1 pc.2.1 pc.2.2, .slice pd.1 pd.2.1 pd.2.2]) sk := hSto.map fun p v hp hc => ⟨hp.2, hc⟩
    obtain ⟨k0, k1, k2, k3, kf, _⟩ := four_cells hB3
    obtain ⟨n0, nf, _⟩ := one_cell hB9
    obtain ⟨y0, yf, _⟩ := one_cell hB8
    replace hgA := hgA
    have hidx : ∃ x0 r0, F = x0 :: r0 := by
      cases F with
      | nil => simp at hFl; omega
      | cons a b => exact ⟨a, b, rfl⟩
    obtain ⟨x0, r0, hF0⟩ := hidx
    obtain ⟨ad0, E0, ce0, e0, _, ⟨_, _, _, z3, _⟩, _⟩ := its_at hIts (show F[0]? = some x0 by rw [hF0]; rfl)
    cases e0
    have hnow : nowL F = x0.2.1 := by rw [hF0]; rfl
    have z3' : V.cell? ⟨fb, 3, none⟩ = some (.int .i64 x0.2.1) := by simpa [Addr.add] using z3
    have hfbh := hFr.at_
    have g6 := Lib.hid hB6
    have g7 := Lib.hid hB7
    by_cases h1 : mf = 1
    · subst h1
      obtain ⟨ref, href⟩ : ∃ r, x0.2.1 = r := ⟨_, rfl⟩
      have hcell := Lib.hid (href ▸ z3')
      obtain ⟨S9, hSk⟩ : ∃ S, sk = S := ⟨_, rfl⟩
      have hO : Hid (growO s l x = (0, S9, ref)) := Lib.hid (by unfold growO; rw [hgA.out, if_pos rfl, if_neg (by rw [hFl]; decide), hnow, href, hSk])
      have g3 := Lib.hid hB3
      have g9 := Lib.hid hB9
      have g8 := Lib.hid hB8
      have hD9 := hD1
      have hB9' := Lib.hid hIb
      have hS9 := Lib.hid (hSk ▸ hSto)
      have hfbn : Hid (fb ≠ w2.heap.size ∧ fb ≠ w3.heap.size) := Lib.hid (by
        have hne : ∀ (k : Nat) (cs : Array Value) (t : TypeId), t ≠ 40 → V.heap[k]? = some (.cells cs t (0, 0)) → fb ≠ k := fun k cs t ht hk e => by
          subst e
          obtain ⟨zs, _, e2, _⟩ := hFr.row
          obtain ⟨b, C, eb, _, _, hgg, _⟩ := own_block5 e2
          cases eb
          rw [hk] at hgg
          simp at hgg
          exact ht hgg.2
        exact ⟨hne _ _ _ (by decide) hB6, hne _ _ _ (by decide) hB7⟩)
      replace hSk := Lib.hid hSk
      replace href := Lib.hid href
      replace hnow := Lib.hid hnow
      replace hF0 := Lib.hid hF0
      replace hFl := Lib.hid hFl
      clear hgr z3 z3' hIts hSV hSto hFr hB3 hB9 hB8 hB6 hB7 hDV hqV hIb hmf hm2
      gi_wp2_with fail
      clear k0 k1 k2 k3 kf n0 nf y0 yf
      -- the end, from world V
      obtain ⟨o6, ho6⟩ : ∃ o : Obj, o = .cells #[.slice pa.1 pa.2.1 pa.2.2, .slice pb.1 pb.2.1 pb.2.2, .slice pc.1 pc.2.1 pc.2.2, .slice pd.1 pd.2.1 pd.2.2] 29 (0, 0) := ⟨_, rfl⟩
      obtain ⟨o7, ho7⟩ : ∃ o : Obj, o = .cells #[.int .i64 ref] 3 (0, 0) := ⟨_, rfl⟩
      obtain ⟨fin, hfn⟩ : ∃ fin, fin = finTwo w2.heap.size o6 w3.heap.size o7 := ⟨_, rfl⟩
      have fn6 : fin w2.heap.size = some o6 := by rw [hfn]; exact finTwo_one _ _ _ _
      have fn7 : fin w3.heap.size = some o7 := by rw [hfn]; exact finTwo_two (by have := SZ.out; omega) _ _
      have fnn : ∀ k, k ≠ w2.heap.size → k ≠ w3.heap.size → fin k = none := fun k h1 h2 => by rw [hfn]; exact finTwo_none h1 h2 _ _
      have K3 := Lib.hid (fun W (hW : KeepT fin V.drew W) => (hW.other (fnn w.heap.size (by have := SZ.out; omega) (by have := SZ.out; omega)) (show V.drew.heap[w.heap.size]? = _ from g3.out) : BoxW w.heap.size #[.slice pa.1 pa.2.1 pa.2.2, .slice pb.1 pb.2.1 pb.2.2, .slice pc.1 pc.2.1 pc.2.2, .slice pd.1 pd.2.1 pd.2.2] 29 W))
      have K9 := Lib.hid (fun W (hW : KeepT fin V.drew W) => (hW.other (fnn w6.heap.size (by have := SZ.out; omega) (by have := SZ.out; omega)) (show V.drew.heap[w6.heap.size]? = _ from g9.out) : BoxW w6.heap.size #[.slice (some ⟨fb, 0, none⟩) 1 fc] 43 W))
      have K8 := Lib.hid (fun W (hW : KeepT fin V.drew W) => (hW.other (fnn w4.heap.size (by have := SZ.out; omega) (by have := SZ.out; omega)) (show V.drew.heap[w4.heap.size]? = _ from g8.out) : BoxW w4.heap.size #[.int .i64 0] 33 W))
      have KD := Lib.hid (fun W (hW : KeepT fin V.drew W) => (hW.other (fnn w8.heap.size (by have := SZ.out; omega) (by have := SZ.out; omega)) (show V.drew.heap[w8.heap.size]? = _ from hD9.out) : W.heap[w8.heap.size]? = some (.deferred (some []))))
      have KF : Hid (∀ W, KeepT fin V.drew W → W.cell? ⟨fb, 3, none⟩ = some (.int .i64 ref)) := Lib.hid fun W hW => by
        have hc := hcell.out
        unfold World.cell? at hc
        split at hc
        · rename_i cs ty fz hb
          have := hW.other (fnn fb hfbn.out.1 hfbn.out.2) (show V.drew.heap[fb]? = _ from hb)
          unfold World.cell?
          simp only [this]
          exact hc
        · cases hc
      have K6 : Hid (∀ W, KeepT fin V.drew W → ∃ a b c d, W.heap[w2.heap.size]? = some (.cells #[a, b, c, d] 29 (0, 0))) := Lib.hid fun W hW => by
        rcases hW.box fn6 (show V.drew.heap[w2.heap.size]? = _ from g6.out) with e | e
        · exact ⟨_, _, _, _, e⟩
        · rw [ho6] at e; exact ⟨_, _, _, _, e⟩
      have K7 : Hid (∀ W, KeepT fin V.drew W → ∃ a, W.heap[w3.heap.size]? = some (.cells #[a] 3 (0, 0))) := Lib.hid fun W hW => by
        rcases hW.box fn7 (show V.drew.heap[w3.heap.size]? = _ from g7.out) with e | e
        · exact ⟨_, e⟩
        · rw [ho7] at e; exact ⟨_, e⟩
      have KB := Lib.hid (fun W (hW : KeepT fin V.drew W) => (⟨hW.os.trans hB9'.out.os, hW.tape.trans hB9'.out.tape, hW.output.trans hB9'.out.output, Nat.le_trans hB9'.out.size hW.size, fun k hk => by
        rcases hW.block k (by have := hB9'.out.size; show k < V.heap.size; omega) with e | ⟨o, e, _⟩
        · exact e.trans (hB9'.out.block k hk)
        · rw [fnn k (by have := SZ.out; omega) (by have := SZ.out; omega)] at e
          cases e⟩ : Below lo w W))
      have KS := Lib.hid (fun W (hW : KeepT fin V.drew W) => (hS9.out.map fun p v hp hc => (show Out l0 w8.heap.size W p ∧ W.cell? p = some v from by
        rcases hW.block p.block hp.2 with e | ⟨o, e, _⟩
        · exact ⟨⟨hp.1, Nat.lt_of_lt_of_le hp.2 hW.size⟩, (World.cell?_of_block (w := V) e).trans hc⟩
        · rw [fnn p.block (by have := SZ.out; rcases hp.1 with h | h <;> omega) (by have := SZ.out; rcases hp.1 with h | h <;> omega)] at e
          cases e) : Sto (Out l0 w8.heap.size W) W (.agg #[.slice pa.1 pa.2.1 pa.2.2, .slice pb.1 pb.2.1 pb.2.2, .slice pc.1 pc.2.1 pc.2.2, .slice pd.1 pd.2.1 pd.2.2]) S9))
      replace fnn := Lib.hid fnn
      replace fn6 := Lib.hid fn6
      replace fn7 := Lib.hid fn7
      replace ho6 := Lib.hid ho6
      replace ho7 := Lib.hid ho7
      replace hfn := Lib.hid hfn
      refine wpIn_wide.2 ?_
      refine Rb.wp_region_fx (KeepT fin) (by kernel_rfl) (fun W => KeepT fin V.drew W) (fun i => match i with
        | 5 => some (fun _ W => W.heap[w2.heap.size]? = some o6)
        | 6 => some (fun _ W => W.heap[w3.heap.size]? = some o7)
        | _ => none) (fun i => match i with
        | 7 => some undef
        | _ => none) (by kernel_rfl) (KeepT.refl _ _) (fun w w' h hb => h.trans hb) ?tsta ?_
      case tsta =>
        intro j φ x W W' hp hx hb
        match j, hp with
        | 5, hp => cases hp; exact hb.done fn6.out hx
        | 6, hp => cases hp; exact hb.done fn7.out hx
      repeat (first
        | (refine Rb.wpAs_skip rfl ?_; simp only [Act.put, List.setIfInBounds_toArray, List.set_cons_zero, List.set_cons_succ])
        | (refine Rb.wpAs_pure (v := ?_) rfl rfl ?_ ?_; rotate_left; (intro W hC hE; clear hE; (obtain ⟨k0, k1, k2, k3, _⟩ := four_cells (K3.out W hC); obtain ⟨n0, _⟩ := one_cell (K9.out W hC); have cf := KF.out W hC); clear hC; go_simp; done); simp only [Act.put, List.setIfInBounds_toArray, List.set_cons_zero, List.set_cons_succ])
        | (refine Rb.wpAs_pure (v := ?_) rfl rfl ?_ ?_; rotate_left; (intro W hC hE; clear hE; (obtain ⟨k0, k1, k2, k3, _⟩ := four_cells (K3.out W hC); obtain ⟨n0, _⟩ := one_cell (K9.out W hC); have cf := KF.out W hC); clear hC; go_simp; with_reducible rfl); simp only [Act.put, List.setIfInBounds_toArray, List.set_cons_zero, List.set_cons_succ]))
      refine Rb.wpAs_act rfl rfl ?_ ?_
      · intro W hC hE
        clear hE
        obtain ⟨a, b, c, d, G⟩ := K6.out W hC
        obtain ⟨q0, q1, q2, q3, qf, _⟩ := four_cells G
        obtain ⟨W1, hW1, e1, gr1, _⟩ := put_four (a' := .slice pa.1 pa.2.1 pa.2.2) (b' := .slice pb.1 pb.2.1 pb.2.2) (c' := .slice pc.1 pc.2.1 pc.2.2) (d' := .slice pd.1 pd.2.1 pd.2.2) G
        rw [← ho6.out] at e1
        have hk := Lib.hid (KeepT.of_grown gr1 fn6.out e1)
        replace e1 := Lib.hid e1
        clear gr1 G hC
        go_simp
        exact ⟨e1.out, hk.out⟩
      simp only [Act.put, Rb.envAdd]
      intro _
      refine Rb.wpAs_act rfl rfl ?_ ?_
      · intro W hC hE
        clear hE
        obtain ⟨a, G⟩ := K7.out W hC
        obtain ⟨q0, qf, _⟩ := one_cell G
        obtain ⟨W1, hW1, e1, gr1, _⟩ := put_one (u := .int .i64 ref) G
        rw [← ho7.out] at e1
        have hk := Lib.hid (KeepT.of_grown gr1 fn7.out e1)
        replace e1 := Lib.hid e1
        clear gr1 G hC
        go_simp
        exact ⟨e1.out, hk.out⟩
      simp only [Act.put, Rb.envAdd]
      intro _
      refine Rb.wpAs_fixed rfl rfl rfl ?_ ?_
      · intro W hC hE
        clear hE
        have G := K8.out W hC
        obtain ⟨q0, qf, _⟩ := one_cell G
        have hs := Lib.hid (setCell_self (i := 0) (v := .int .i64 0) G rfl)
        clear G hC
        go_simp
        rw [hs.out]
        exact ⟨rfl, KeepT.refl _ _⟩
      simp only [Act.put]
      refine Rb.wpAs_end fun W hC hE => ?_
      have e7 := hE.1
      have e6 := hE.2.1
      rw [ho7.out] at e7
      rw [ho6.out] at e6
      have hD5 := Lib.hid (KD.out W hC)
      have e8 := Lib.hid (K8.out W hC)
      have hBe := Lib.hid (KB.out W hC)
      have hSe := Lib.hid (KS.out W hC)
      replace e6 := Lib.hid e6
      replace e7 := Lib.hid e7
      have hWs := Lib.hid (show V.heap.size ≤ W.heap.size from hC.size)
      clear hE hC
      simp only [Exit.then]
      gi_wp2_with fail
      refine ⟨by simp, .inl ⟨_, _, rfl, run_takeDeferred hD5.out, ?_⟩⟩
      have hgp := grownBy_putObj' W w8.heap.size (.deferred none)
      have hnp : ∀ r, some w8.heap.size = some r → ∃ o : Obj, W.heap[r]? = some o ∧ o.isCells = false := fun r e => by cases e; exact ⟨_, hD5.out, rfl⟩
      obtain ⟨m0, m1, m2, m3, _⟩ := four_cells (block_kept e6.out hgp hnp)
      obtain ⟨n0, _⟩ := one_cell (block_kept e7.out hgp hnp)
      obtain ⟨y0, _⟩ := one_cell (block_kept e8.out hgp hnp)
      refine ⟨.tuple #[.agg #[.slice pa.1 pa.2.1 pa.2.2, .slice pb.1 pb.2.1 pb.2.2, .slice pc.1 pc.2.1 pc.2.2, .slice pd.1 pd.2.1 pd.2.2], .int .i64 ref, .int .i64 0], by simp [results, Tryz.f27, go_sem, m0, m1, m2, m3, n0, y0], pa, pb, pc, pd, by rw [hO.out], by rw [hO.out]; exact hSe.out.map fun p v hp hc => ⟨⟨by have := SZ.out; rcases hp.1 with h | h <;> omega, Nat.lt_of_lt_of_le hp.2 hgp.size⟩, cell_kept hc hgp hnp⟩, hBe.out.grown hgp (by have := SZ.out; have := hBe.out.size; omega) (fun k e => by cases e; have := SZ.out; omega)⟩

    · have h2 : mf = 2 := by omega
      subst h2
      have HL := Lib.hid (lay_any pa pb pc pd sk ((m : Nat) : Int) ⟨by omega, by omega⟩ (some ⟨fb, 0, none⟩) 2 fc F (some ⟨fb, 0, none⟩) 2 fc F V hSV hIts hIts hFl (by decide) hFl (by decide))
      have hsm := Lib.hid (fun h : (layO sk ((m : Nat) : Int) F F).1 = 0 => lay_some h)
      have hO0 : growO s l x = if (layO sk ((m : Nat) : Int) F F).1 = 0 then (0, (layO sk ((m : Nat) : Int) F F).2.1, nowL (layO sk ((m : Nat) : Int) F F).2.2) else ((layO sk ((m : Nat) : Int) F F).1, emptyR, 0) := by
        unfold growO
        rw [hgA.out, if_pos rfl, if_pos (by rw [hFl]; decide), hl.out]
      obtain ⟨er, her⟩ : ∃ e, (layO sk ((m : Nat) : Int) F F).1 = e := ⟨_, rfl⟩
      obtain ⟨S9, hS'⟩ : ∃ e, (layO sk ((m : Nat) : Int) F F).2.1 = e := ⟨_, rfl⟩
      obtain ⟨up, hup⟩ : ∃ e, (layO sk ((m : Nat) : Int) F F).2.2 = e := ⟨_, rfl⟩
      unfold LayR at HL
      rw [her, hS', hup] at hO0 HL
      rw [her, hup] at hsm
      obtain ⟨nu, hnu⟩ : ∃ e, up.length = e := ⟨_, rfl⟩
      rw [hnu] at HL hsm
      have hIb' := Lib.hid hIb
      have g3 := Lib.hid hB3
      have g9 := Lib.hid hB9
      have g8 := Lib.hid hB8
      replace hO0 := Lib.hid hO0
      replace her := Lib.hid her
      replace hS' := Lib.hid hS'
      replace hup := Lib.hid hup
      replace hnu := Lib.hid hnu
      replace hnow := Lib.hid hnow
      replace hF0 := Lib.hid hF0
      replace hFl := Lib.hid hFl
      have hw1 : (1 : Int) < ((2 : Nat) : Int) := by decide
      clear hgr z3 z3' hIts hSV hSto hFr hB3 hB9 hB8 hB6 hB7 hDV hqV hIb hmf hm2 h1
      gi_wp2_with fail
      refine ⟨trivial, ?_⟩
      gi_at_call 46
      refine (callsIn_wide.2 HL.out).mono ?_
      rintro e W ⟨va, vb, vc, vd, M, mc, rfl, hS, hrow, hbW⟩
      have c3 := (lasts_boxW _ _ _ _ _ g3.out hbW : BoxW w.heap.size _ _ W)
      have c9 := (lasts_boxW _ _ _ _ _ g9.out hbW : BoxW w6.heap.size _ _ W)
      have c8 := (lasts_boxW _ _ _ _ _ g8.out hbW : BoxW w4.heap.size _ _ W)
      have c6 := (lasts_boxW _ _ _ _ _ g6.out hbW : BoxW w2.heap.size _ _ W)
      have c7 := (lasts_boxW _ _ _ _ _ g7.out hbW : BoxW w3.heap.size _ _ W)
      have cD := (hbW.block w8.heap.size (Array.getElem?_eq_some_iff.1 hD1.out).1).trans hD1.out
      have hWs := hbW.size
      obtain ⟨W1, hW1, d3, gr1, gs1⟩ := put_four (a' := .slice va.1 va.2.1 va.2.2) (b' := .slice vb.1 vb.2.1 vb.2.2) (c' := .slice vc.1 vc.2.1 vc.2.2) (d' := .slice vd.1 vd.2.1 vd.2.2) c3
      have c91 : BoxW w6.heap.size _ 43 W1 := (gr1.block _ (Array.getElem?_eq_some_iff.1 c9).1 (fun e => by have := Option.some.inj e; have := SZ.out; omega)).trans c9
      obtain ⟨W2, hW2, d9, gr2, gs2⟩ := put_one (u := .slice M nu mc) c91
      have c82 : BoxW w4.heap.size #[.int .i64 0] 33 W2 := (gr2.block _ (by rw [gs1]; exact (Array.getElem?_eq_some_iff.1 c8).1) (fun e => by have := Option.some.inj e; have := SZ.out; omega)).trans ((gr1.block _ (Array.getElem?_eq_some_iff.1 c8).1 (fun e => by have := Option.some.inj e; have := SZ.out; omega)).trans c8)
      obtain ⟨W3, hW3, d8, gr3, gs3⟩ := put_one (u := .int .i64 er) c82
      obtain ⟨m0, m1, m2, m3, mf9, _⟩ := four_cells c3
      obtain ⟨n0', nf', _⟩ := one_cell c91
      obtain ⟨y0', yf', _⟩ := one_cell c82
      obtain ⟨y3, _, _⟩ := one_cell d8
      have all3 : ∀ k, k < W.heap.size → k ≠ w.heap.size → k ≠ w6.heap.size → k ≠ w4.heap.size → W3.heap[k]? = W.heap[k]? := fun k h1 h2 h3 h4 =>
        (gr3.block k (by omega) (fun e => h4 (Option.some.inj e))).trans ((gr2.block k (by omega) (fun e => h3 (Option.some.inj e))).trans (gr1.block k h1 (fun e => h2 (Option.some.inj e))))
      have hs3' : W3.heap.size = W.heap.size := by omega
      have big : ∀ k, V.heap.size ≤ k → k < W.heap.size → W3.heap[k]? = W.heap[k]? := fun k h1 h2 => all3 k h2 (by have := SZ.out; omega) (by have := SZ.out; omega) (by have := SZ.out; omega)
      have hB9' : Hid (Below lo w W3) := Lib.hid (((((hIb'.out.trans (hbW.mono (by have := SZ.out; omega))).grown gr1 (by have := SZ.out; omega) (fun k e => by cases e; omega)).grown gr2 (by have := SZ.out; omega) (fun k e => by cases e; have := SZ.out; omega)).grown gr3 (by have := SZ.out; omega) (fun k e => by cases e; have := SZ.out; omega)))
      have z6 : Hid (BoxW w2.heap.size #[.slice none 0 0, .slice none 0 0, .slice none 0 0, .slice none 0 0] 29 W3) := Lib.hid ((all3 _ (Array.getElem?_eq_some_iff.1 c6).1 (by have := SZ.out; omega) (by have := SZ.out; omega) (by have := SZ.out; omega)).trans c6)
      have z7 : Hid (BoxW w3.heap.size #[.int .i64 0] 3 W3) := Lib.hid ((all3 _ (Array.getElem?_eq_some_iff.1 c7).1 (by have := SZ.out; omega) (by have := SZ.out; omega) (by have := SZ.out; omega)).trans c7)
      have z8 : Hid (BoxW w4.heap.size #[.int .i64 er] 33 W3) := Lib.hid d8
      have z3 : Hid (BoxW w.heap.size #[.slice va.1 va.2.1 va.2.2, .slice vb.1 vb.2.1 vb.2.2, .slice vc.1 vc.2.1 vc.2.2, .slice vd.1 vd.2.1 vd.2.2] 29 W3) := Lib.hid ((gr3.block _ (by have := SZ.out; omega) (fun e => by have := Option.some.inj e; have := SZ.out; omega)).trans ((gr2.block _ (by have := SZ.out; omega) (fun e => by have := Option.some.inj e; have := SZ.out; omega)).trans d3))
      have z9 : Hid (BoxW w6.heap.size #[.slice M nu mc] 43 W3) := Lib.hid ((gr3.block _ (by have := SZ.out; omega) (fun e => by have := Option.some.inj e; have := SZ.out; omega)).trans d9)
      have zD : Hid (W3.heap[w8.heap.size]? = some (.deferred (some []))) := Lib.hid ((all3 _ (Array.getElem?_eq_some_iff.1 cD).1 (by have := SZ.out; omega) (by have := SZ.out; omega) (by have := SZ.out; omega)).trans cD)
      have hS9 : Hid (Sto (Out l0 w8.heap.size W3) W3 (.agg #[.slice va.1 va.2.1 va.2.2, .slice vb.1 vb.2.1 vb.2.2, .slice vc.1 vc.2.1 vc.2.2, .slice vd.1 vd.2.1 vd.2.2]) S9) := Lib.hid (hS.map fun p v hp hc => ⟨⟨.inr (by have := hp.1; omega), by have := hp.2.1; omega⟩, (World.cell?_of_block (big _ hp.1 hp.2.1)).trans hc⟩)
      have hcl : Hid (0 < nu → ∃ fb' x1 r1, M = some ⟨fb', 0, none⟩ ∧ V.heap.size ≤ fb' ∧ up = x1 :: r1 ∧ W3.cell? ⟨fb', 3, none⟩ = some (.int .i64 x1.2.1)) := Lib.hid fun hn => by
        obtain ⟨zs, e1, e2, e3⟩ := rowOf_cells hrow
        rw [hnu.out] at e2
        obtain ⟨ad', rfl⟩ : ∃ ad', M = some ad' := by
          obtain ⟨_, _, e, _, _, _, h5⟩ := own_any e2
          cases e
          exact h5 hn
        obtain ⟨b, C, rfl, hb1, hb2, _⟩ := own_block5 e2
        obtain ⟨x1, r1, hu⟩ : ∃ x1 r1, up = x1 :: r1 := by
          cases up with
          | nil => have := hnu.out; simp at this; omega
          | cons a b => exact ⟨a, b, rfl⟩
        refine ⟨b, x1, r1, rfl, hb1, hu, ?_⟩
        have hr2 := hrow.rel stab_it
        obtain ⟨ad2, E2, ce2, e2', _, ⟨_, _, _, z3', _⟩, _⟩ := its_at hr2 (show up[0]? = some x1 by rw [hu]; rfl)
        cases e2'
        rw [World.cell?_of_block (big _ hb1 hb2)]
        simpa [Addr.add] using z3'
      replace all3 := Lib.hid all3
      replace hs3' := Lib.hid hs3'
      replace d3 := Lib.hid d3
      replace d8 := Lib.hid d8
      replace d9 := Lib.hid d9
      replace gr1 := Lib.hid gr1
      replace gr2 := Lib.hid gr2
      replace gr3 := Lib.hid gr3
      replace hWs := Lib.hid hWs
      replace gs1 := Lib.hid gs1
      replace gs2 := Lib.hid gs2
      replace gs3 := Lib.hid gs3
      clear c3 c9 c8 c6 c7 c91 c82 cD big hrow hS hbW k0 k1 k2 k3 kf n0 nf y0 yf g3 g9 g8 g6 g7
      by_cases he0 : er = 0
      · subst he0
        obtain ⟨hu1, hu2⟩ := hsm.out rfl
        obtain ⟨fb', x1, r1, rfl, hfb', hu, hc1⟩ := hcl.out hu1
        obtain ⟨ref, href⟩ : ∃ r, x1.2.1 = r := ⟨_, rfl⟩
        rw [href] at hc1
        have hcell := Lib.hid hc1
        have hO : Hid (growO s l x = (0, S9, ref)) := Lib.hid (by rw [hO0.out, if_pos rfl, hu]; show (0, S9, x1.2.1) = _; rw [href])
        have g3 := z3
        have g9 := z9
        have g8 := z8
        have g6 := z6
        have g7 := z7
        have hD9 := zD
        have hfbn : Hid (fb' ≠ w2.heap.size ∧ fb' ≠ w3.heap.size) := Lib.hid ⟨by have := SZ.out; omega, by have := SZ.out; omega⟩
        have hIs9 := Lib.hid (show w8.heap.size ≤ W3.heap.size from by have := hs3'.out; have := hWs.out; omega)
        replace hu := Lib.hid hu
        replace href := Lib.hid href
        replace hfb' := Lib.hid hfb'
        have i0 : (0 : Int) < (nu : Int) := by omega
        clear hc1
        gi_wp2_with fail
        clear m0 m1 m2 m3 mf9 n0' nf' y0' yf' y3
        -- the end, from world W3
        obtain ⟨o6, ho6⟩ : ∃ o : Obj, o = .cells #[.slice va.1 va.2.1 va.2.2, .slice vb.1 vb.2.1 vb.2.2, .slice vc.1 vc.2.1 vc.2.2, .slice vd.1 vd.2.1 vd.2.2] 29 (0, 0) := ⟨_, rfl⟩
        obtain ⟨o7, ho7⟩ : ∃ o : Obj, o = .cells #[.int .i64 ref] 3 (0, 0) := ⟨_, rfl⟩
        obtain ⟨fin, hfn⟩ : ∃ fin, fin = finTwo w2.heap.size o6 w3.heap.size o7 := ⟨_, rfl⟩
        have fn6 : fin w2.heap.size = some o6 := by rw [hfn]; exact finTwo_one _ _ _ _
        have fn7 : fin w3.heap.size = some o7 := by rw [hfn]; exact finTwo_two (by have := SZ.out; omega) _ _
        have fnn : ∀ k, k ≠ w2.heap.size → k ≠ w3.heap.size → fin k = none := fun k h1 h2 => by rw [hfn]; exact finTwo_none h1 h2 _ _
        have K3 := Lib.hid (fun W (hW : KeepT fin W3.drew W) => (hW.other (fnn w.heap.size (by have := SZ.out; omega) (by have := SZ.out; omega)) (show W3.drew.heap[w.heap.size]? = _ from g3.out) : BoxW w.heap.size #[.slice va.1 va.2.1 va.2.2, .slice vb.1 vb.2.1 vb.2.2, .slice vc.1 vc.2.1 vc.2.2, .slice vd.1 vd.2.1 vd.2.2] 29 W))
        have K9 := Lib.hid (fun W (hW : KeepT fin W3.drew W) => (hW.other (fnn w6.heap.size (by have := SZ.out; omega) (by have := SZ.out; omega)) (show W3.drew.heap[w6.heap.size]? = _ from g9.out) : BoxW w6.heap.size #[.slice (some ⟨fb', 0, none⟩) nu mc] 43 W))
        have K8 := Lib.hid (fun W (hW : KeepT fin W3.drew W) => (hW.other (fnn w4.heap.size (by have := SZ.out; omega) (by have := SZ.out; omega)) (show W3.drew.heap[w4.heap.size]? = _ from g8.out) : BoxW w4.heap.size #[.int .i64 0] 33 W))
        have KD := Lib.hid (fun W (hW : KeepT fin W3.drew W) => (hW.other (fnn w8.heap.size (by have := SZ.out; omega) (by have := SZ.out; omega)) (show W3.drew.heap[w8.heap.size]? = _ from hD9.out) : W.heap[w8.heap.size]? = some (.deferred (some []))))
        have KF : Hid (∀ W, KeepT fin W3.drew W → W.cell? ⟨fb', 3, none⟩ = some (.int .i64 ref)) := Lib.hid fun W hW => by
          have hc := hcell.out
          unfold World.cell? at hc
          split at hc
          · rename_i cs ty fz hb
            have := hW.other (fnn fb' hfbn.out.1 hfbn.out.2) (show W3.drew.heap[fb']? = _ from hb)
            unfold World.cell?
            simp only [this]
            exact hc
          · cases hc
        have K6 : Hid (∀ W, KeepT fin W3.drew W → ∃ a b c d, W.heap[w2.heap.size]? = some (.cells #[a, b, c, d] 29 (0, 0))) := Lib.hid fun W hW => by
          rcases hW.box fn6 (show W3.drew.heap[w2.heap.size]? = _ from g6.out) with e | e
          · exact ⟨_, _, _, _, e⟩
          · rw [ho6] at e; exact ⟨_, _, _, _, e⟩
        have K7 : Hid (∀ W, KeepT fin W3.drew W → ∃ a, W.heap[w3.heap.size]? = some (.cells #[a] 3 (0, 0))) := Lib.hid fun W hW => by
          rcases hW.box fn7 (show W3.drew.heap[w3.heap.size]? = _ from g7.out) with e | e
          · exact ⟨_, e⟩
          · rw [ho7] at e; exact ⟨_, e⟩
        have KB := Lib.hid (fun W (hW : KeepT fin W3.drew W) => (⟨hW.os.trans hB9'.out.os, hW.tape.trans hB9'.out.tape, hW.output.trans hB9'.out.output, Nat.le_trans hB9'.out.size hW.size, fun k hk => by
          rcases hW.block k (by have := hB9'.out.size; show k < W3.heap.size; omega) with e | ⟨o, e, _⟩
          · exact e.trans (hB9'.out.block k hk)
          · rw [fnn k (by have := SZ.out; omega) (by have := SZ.out; omega)] at e
            cases e⟩ : Below lo w W))
        have KS := Lib.hid (fun W (hW : KeepT fin W3.drew W) => (hS9.out.map fun p v hp hc => (show Out l0 w8.heap.size W p ∧ W.cell? p = some v from by
          rcases hW.block p.block hp.2 with e | ⟨o, e, _⟩
          · exact ⟨⟨hp.1, Nat.lt_of_lt_of_le hp.2 hW.size⟩, (World.cell?_of_block (w := W3) e).trans hc⟩
          · rw [fnn p.block (by have := SZ.out; rcases hp.1 with h | h <;> omega) (by have := SZ.out; rcases hp.1 with h | h <;> omega)] at e
            cases e) : Sto (Out l0 w8.heap.size W) W (.agg #[.slice va.1 va.2.1 va.2.2, .slice vb.1 vb.2.1 vb.2.2, .slice vc.1 vc.2.1 vc.2.2, .slice vd.1 vd.2.1 vd.2.2]) S9))
        replace fnn := Lib.hid fnn
        replace fn6 := Lib.hid fn6
        replace fn7 := Lib.hid fn7
        replace ho6 := Lib.hid ho6
        replace ho7 := Lib.hid ho7
        replace hfn := Lib.hid hfn
        refine wpIn_wide.2 ?_
        refine Rb.wp_region_fx (KeepT fin) (by kernel_rfl) (fun W => KeepT fin W3.drew W) (fun i => match i with
          | 5 => some (fun _ W => W.heap[w2.heap.size]? = some o6)
          | 6 => some (fun _ W => W.heap[w3.heap.size]? = some o7)
          | _ => none) (fun i => match i with
          | 7 => some undef
          | _ => none) (by kernel_rfl) (KeepT.refl _ _) (fun w w' h hb => h.trans hb) ?tstb ?_
        case tstb =>
          intro j φ x W W' hp hx hb
          match j, hp with
          | 5, hp => cases hp; exact hb.done fn6.out hx
          | 6, hp => cases hp; exact hb.done fn7.out hx
        repeat (first
          | (refine Rb.wpAs_skip rfl ?_; simp only [Act.put, List.setIfInBounds_toArray, List.set_cons_zero, List.set_cons_succ])
          | (refine Rb.wpAs_pure (v := ?_) rfl rfl ?_ ?_; rotate_left; (intro W hC hE; clear hE; (obtain ⟨k0, k1, k2, k3, _⟩ := four_cells (K3.out W hC); obtain ⟨n0, _⟩ := one_cell (K9.out W hC); have cf := KF.out W hC); clear hC; go_simp; done); simp only [Act.put, List.setIfInBounds_toArray, List.set_cons_zero, List.set_cons_succ])
          | (refine Rb.wpAs_pure (v := ?_) rfl rfl ?_ ?_; rotate_left; (intro W hC hE; clear hE; (obtain ⟨k0, k1, k2, k3, _⟩ := four_cells (K3.out W hC); obtain ⟨n0, _⟩ := one_cell (K9.out W hC); have cf := KF.out W hC); clear hC; go_simp; with_reducible rfl); simp only [Act.put, List.setIfInBounds_toArray, List.set_cons_zero, List.set_cons_succ]))
        refine Rb.wpAs_act rfl rfl ?_ ?_
        · intro W hC hE
          clear hE
          obtain ⟨a, b, c, d, G⟩ := K6.out W hC
          obtain ⟨q0, q1, q2, q3, qf, _⟩ := four_cells G
          obtain ⟨W1, hW1, e1, gr1, _⟩ := put_four (a' := .slice va.1 va.2.1 va.2.2) (b' := .slice vb.1 vb.2.1 vb.2.2) (c' := .slice vc.1 vc.2.1 vc.2.2) (d' := .slice vd.1 vd.2.1 vd.2.2) G
          rw [← ho6.out] at e1
          have hk := Lib.hid (KeepT.of_grown gr1 fn6.out e1)
          replace e1 := Lib.hid e1
          clear gr1 G hC
          go_simp
          exact ⟨e1.out, hk.out⟩
        simp only [Act.put, Rb.envAdd]
        intro _
        refine Rb.wpAs_act rfl rfl ?_ ?_
        · intro W hC hE
          clear hE
          obtain ⟨a, G⟩ := K7.out W hC
          obtain ⟨q0, qf, _⟩ := one_cell G
          obtain ⟨W1, hW1, e1, gr1, _⟩ := put_one (u := .int .i64 ref) G
          rw [← ho7.out] at e1
          have hk := Lib.hid (KeepT.of_grown gr1 fn7.out e1)
          replace e1 := Lib.hid e1
          clear gr1 G hC
          go_simp
          exact ⟨e1.out, hk.out⟩
        simp only [Act.put, Rb.envAdd]
        intro _
        refine Rb.wpAs_fixed rfl rfl rfl ?_ ?_
        · intro W hC hE
          clear hE
          have G := K8.out W hC
          obtain ⟨q0, qf, _⟩ := one_cell G
          have hs := Lib.hid (setCell_self (i := 0) (v := .int .i64 0) G rfl)
          clear G hC
          go_simp
          rw [hs.out]
          exact ⟨rfl, KeepT.refl _ _⟩
        simp only [Act.put]
        refine Rb.wpAs_end fun W hC hE => ?_
        have e7 := hE.1
        have e6 := hE.2.1
        rw [ho7.out] at e7
        rw [ho6.out] at e6
        have hD5 := Lib.hid (KD.out W hC)
        have e8 := Lib.hid (K8.out W hC)
        have hBe := Lib.hid (KB.out W hC)
        have hSe := Lib.hid (KS.out W hC)
        replace e6 := Lib.hid e6
        replace e7 := Lib.hid e7
        have hWs := Lib.hid (show W3.heap.size ≤ W.heap.size from hC.size)
        clear hE hC
        simp only [Exit.then]
        gi_wp2_with fail
        refine ⟨by simp, .inl ⟨_, _, rfl, run_takeDeferred hD5.out, ?_⟩⟩
        have hgp := grownBy_putObj' W w8.heap.size (.deferred none)
        have hnp : ∀ r, some w8.heap.size = some r → ∃ o : Obj, W.heap[r]? = some o ∧ o.isCells = false := fun r e => by cases e; exact ⟨_, hD5.out, rfl⟩
        obtain ⟨m0, m1, m2, m3, _⟩ := four_cells (block_kept e6.out hgp hnp)
        obtain ⟨n0, _⟩ := one_cell (block_kept e7.out hgp hnp)
        obtain ⟨y0, _⟩ := one_cell (block_kept e8.out hgp hnp)
        refine ⟨.tuple #[.agg #[.slice va.1 va.2.1 va.2.2, .slice vb.1 vb.2.1 vb.2.2, .slice vc.1 vc.2.1 vc.2.2, .slice vd.1 vd.2.1 vd.2.2], .int .i64 ref, .int .i64 0], by simp [results, Tryz.f27, go_sem, m0, m1, m2, m3, n0, y0], va, vb, vc, vd, by rw [hO.out], by rw [hO.out]; exact hSe.out.map fun p v hp hc => ⟨⟨by have := SZ.out; rcases hp.1 with h | h <;> omega, Nat.lt_of_lt_of_le hp.2 hgp.size⟩, cell_kept hc hgp hnp⟩, hBe.out.grown hgp (by have := SZ.out; have := hBe.out.size; omega) (fun k e => by cases e; have := SZ.out; omega)⟩

      · have t0 : (er != 0) = true := by simpa using he0
        have hO : Hid (growO s l x = (er, emptyR, 0)) := Lib.hid (by rw [hO0.out, if_neg he0])
        replace he0 := Lib.hid he0
        have S6 := Lib.hid (show ∀ W : World, W = W3.drew → (((W.setCell ⟨w2.heap.size, 0, none⟩ (.slice none 0 0)).setCell ⟨w2.heap.size, 1, none⟩ (.slice none 0 0)).setCell ⟨w2.heap.size, 2, none⟩ (.slice none 0 0)).setCell ⟨w2.heap.size, 3, none⟩ (.slice none 0 0) = W from fun W e => by
          subst e
          have e6 : BoxW w2.heap.size #[.slice none 0 0, .slice none 0 0, .slice none 0 0, .slice none 0 0] 29 W3.drew := z6.out
          rw [setCell_self (W := W3.drew) e6 rfl, setCell_self (W := W3.drew) e6 rfl, setCell_self (W := W3.drew) e6 rfl, setCell_self (W := W3.drew) e6 rfl])
        have S7 := Lib.hid (show ∀ W : World, W = W3.drew → W.setCell ⟨w3.heap.size, 0, none⟩ (.int .i64 0) = W from fun W e => by subst e; exact setCell_self (W := W3.drew) z7.out rfl)
        have S8 := Lib.hid (show ∀ W : World, W = W3.drew → W.setCell ⟨w4.heap.size, 0, none⟩ (.int .i64 er) = W from fun W e => by subst e; exact setCell_self (W := W3.drew) z8.out rfl)
        gi_wp2_with fail
        clear m0 m1 m2 m3 mf9 n0' nf' y0' yf' y3
        refine wpIn_wide.2 ?_
        refine Rb.wp_region_fx (fun W W' => W' = W) (by kernel_rfl) (fun W => W = W3.drew) (fun _ => none) (fun i => match i with
          | 2 => some undef
          | 3 => some undef
          | 4 => some undef
          | _ => none) (by kernel_rfl) rfl (fun _ _ h e => e.trans h) (fun _ _ _ _ _ hp => by cases hp) ?_
        repeat (first
          | (refine Rb.wpAs_skip rfl ?_; simp only [Act.put, List.setIfInBounds_toArray, List.set_cons_zero, List.set_cons_succ])
          | (refine Rb.wpAs_pure (v := ?_) rfl rfl ?_ ?_; rotate_left; (intro W hC hE; clear hE; (have hC' := hC; subst hC'; obtain ⟨y0, yf, _⟩ := one_cell z8.out); clear hC; go_simp; done); simp only [Act.put, List.setIfInBounds_toArray, List.set_cons_zero, List.set_cons_succ])
          | (refine Rb.wpAs_pure (v := ?_) rfl rfl ?_ ?_; rotate_left; (intro W hC hE; clear hE; (have hC' := hC; subst hC'; obtain ⟨y0, yf, _⟩ := one_cell z8.out); clear hC; go_simp; with_reducible rfl); simp only [Act.put, List.setIfInBounds_toArray, List.set_cons_zero, List.set_cons_succ]))
        refine Rb.wpAs_fixed rfl rfl rfl ?_ ?_
        · intro W hC hE
          clear hE
          have hh := Lib.hid (S6.out W hC)
          have e6 : BoxW w2.heap.size #[.slice none 0 0, .slice none 0 0, .slice none 0 0, .slice none 0 0] 29 W := by rw [hC]; exact z6.out
          obtain ⟨m0, m1, m2, m3, mf, _⟩ := four_cells e6
          clear hC e6
          go_simp
          first | exact ⟨rfl, hh.out⟩ | exact hh.out
        simp only [Act.put]
        refine Rb.wpAs_fixed rfl rfl rfl ?_ ?_
        · intro W hC hE
          clear hE
          have hh := Lib.hid (S7.out W hC)
          have e6 : BoxW w3.heap.size #[.int .i64 0] 3 W := by rw [hC]; exact z7.out
          obtain ⟨m0, mf, _⟩ := one_cell e6
          clear hC e6
          go_simp
          first | exact ⟨rfl, hh.out⟩ | exact hh.out
        simp only [Act.put]
        refine Rb.wpAs_fixed rfl rfl rfl ?_ ?_
        · intro W hC hE
          clear hE
          have hh := Lib.hid (S8.out W hC)
          have e6 : BoxW w4.heap.size #[.int .i64 er] 33 W := by rw [hC]; exact z8.out
          obtain ⟨m0, mf, _⟩ := one_cell e6
          clear hC e6
          go_simp
          first | exact ⟨rfl, hh.out⟩ | exact hh.out
        simp only [Act.put]
        refine Rb.wpAs_end fun W hC hE => ?_
        subst hC
        clear hE
        simp only [Exit.then]
        have hD5 : Hid (W3.drew.heap[w8.heap.size]? = some (.deferred (some []))) := zD
        gi_wp2_with fail
        refine ⟨by simp, .inl ⟨_, _, rfl, run_takeDeferred hD5.out, ?_⟩⟩
        have hgp := grownBy_putObj' W3.drew w8.heap.size (.deferred none)
        have hnp : ∀ r, some w8.heap.size = some r → ∃ o : Obj, W3.drew.heap[r]? = some o ∧ o.isCells = false := fun r e => by cases e; exact ⟨_, hD5.out, rfl⟩
        obtain ⟨m0, m1, m2, m3, _⟩ := four_cells (block_kept (show W3.drew.heap[w2.heap.size]? = _ from z6.out) hgp hnp)
        obtain ⟨n0, _⟩ := one_cell (block_kept (show W3.drew.heap[w3.heap.size]? = _ from z7.out) hgp hnp)
        obtain ⟨y0, _⟩ := one_cell (block_kept (show W3.drew.heap[w4.heap.size]? = _ from z8.out) hgp hnp)
        refine ⟨.tuple #[.agg #[.slice none 0 0, .slice none 0 0, .slice none 0 0, .slice none 0 0], .int .i64 0, .int .i64 er], by simp [results, Tryz.f27, go_sem, m0, m1, m2, m3, n0, y0], (none, 0, 0), (none, 0, 0), (none, 0, 0), (none, 0, 0), by rw [hO.out], by rw [hO.out]; exact sto_empty _ _, hB9'.out.drew.grown hgp (by have := SZ.out; have := hB9'.out.size; show lo ≤ W3.heap.size; omega) (fun k e => by cases e; have := SZ.out; omega)⟩
  case stop =>
    rintro c pre' q' V hVs ⟨rfl, _, ⟨hIb, hIs⟩, er, hB6, hB7, hB8, hgA, he0⟩ hDV hqV
    have hD1 := Lib.hid hDV
    have z6 := Lib.hid hB6
    have z7 := Lib.hid hB7
    have z8 := Lib.hid hB8
    have hb := Lib.hid hIb
    have hO : Hid (growO s l x = (er, emptyR, 0)) := Lib.hid (by unfold growO; rw [hgA, if_neg he0])
    clear hB6 hB7 hB8 hgA he0 hDV hqV hIb
    gi_wp2_with fail
    refine ⟨by simp, .inl ⟨_, _, rfl, run_takeDeferred hD1.out, ?_⟩⟩
    have hgp := grownBy_putObj' V w8.heap.size (.deferred none)
    have hnp : ∀ r, some w8.heap.size = some r → ∃ o : Obj, V.heap[r]? = some o ∧ o.isCells = false := fun r e => by cases e; exact ⟨_, hD1.out, rfl⟩
    obtain ⟨m0, m1, m2, m3, _⟩ := four_cells (block_kept z6.out hgp hnp)
    obtain ⟨n0, _⟩ := one_cell (block_kept z7.out hgp hnp)
    obtain ⟨y0, _⟩ := one_cell (block_kept z8.out hgp hnp)
    refine ⟨.tuple #[.agg #[.slice none 0 0, .slice none 0 0, .slice none 0 0, .slice none 0 0], .int .i64 0, .int .i64 er], by simp [results, Tryz.f27, go_sem, m0, m1, m2, m3, n0, y0], (none, 0, 0), (none, 0, 0), (none, 0, 0), (none, 0, 0), by rw [hO.out], by rw [hO.out]; exact sto_empty _ _, hb.out.grown hgp (by have := SZ.out; omega) (fun k e => by cases e; have := SZ.out; omega)⟩
end Go.Proofs.YtogieepfimpdmaaGreat

/-
  Package put: Put. Conditions: those that each lemma states.
-/
namespace Go.Proofs.YtogieepfimpdmaaGreat
open Go.RowKit

/-- The steps of a key's way. -/
def WayL (s : Rm) (k : Ky) (a : Int) (l : List Sv) : Prop := l.length = (rmV s a).1.toNat + 1 ∧ ∀ i q, l[i]? = some q → q.nd = rmV s (atW s k a i) ∧ (q.pl, q.inst) = stpN q.nd k
noncomputable def putS (s : Rm) (a : Int) (x : It) (l : List Sv) : Int × Rm × Int :=
  if ckE s a ≠ 0 then (ckE s a, emptyR, 0)
  else if citE s x ≠ 0 then (citE s x, emptyR, 0)
  else if (rmV s a).1 = 5 ∧ partF l.reverse 1 = true then (120, emptyR, 0)
  else if (growO s l x).1 ≠ 0 then ((growO s l x).1, emptyR, 0)
  else if lvE (growO s l x).2.1 a ≠ 0 then (lvE (growO s l x).2.1 a, emptyR, 0)
  else (0, lvV (growO s l x).2.1 a, (growO s l x).2.2)
def PutR (s : Rm) (a : Int) (x : It) (w : World) (e : Ending) (w' : World) : Prop := ∃ (l : List Sv) (qa qb qc qd : Option Addr × Nat × Nat), (ckE s a = 0 → citE s x = 0 → WayL s x.1 a l) ∧
  e = .returned (.tuple #[.agg #[.slice qa.1 qa.2.1 qa.2.2, .slice qb.1 qb.2.1 qb.2.2, .slice qc.1 qc.2.1 qc.2.2, .slice qd.1 qd.2.1 qd.2.2], .int .i64 (putS s a x l).2.2, .int .i64 (putS s a x l).1]) ∧
  Sto (New w.heap.size w') w' (.agg #[.slice qa.1 qa.2.1 qa.2.2, .slice qb.1 qb.2.1 qb.2.2, .slice qc.1 qc.2.1 qc.2.2, .slice qd.1 qd.2.1 qd.2.2]) (putS s a x l).2.1 ∧ Below w.heap.size w w'
theorem WayIs.below {lo : Nat} {s : Rm} {k : Ky} {a : Int} {W W' : World} {A : Option Addr} {c : Nat} {l : List Sv} (h : WayIs lo s k a W A c l) (hb : Below W.heap.size W W') : WayIs lo s k a W' A c l :=
  ⟨own_below h.row hb, ⟨fun q hq => by
    obtain ⟨h1, h2, h3, h4⟩ := h.rows.ok q hq
    exact ⟨h1, h2, Nat.le_trans h3 hb.size, h4.same fun k k1 k2 => hb.block k (by omega)⟩, h.rows.apart⟩, h.off, h.are⟩
theorem way_ok {s : Rm} {k : Ky} {a : Int} {lv : Nat} {l : List Sv} (hT : AtT s lv a) (hl : l.length = lv + 1) (_ : lv < 6) (are : ∀ i q, l[i]? = some q → q.nd = rmV s (atW s k a i) ∧ (q.pl, q.inst) = stpN q.nd k) : ∀ q ∈ l, In64 q.nd.1 ∧ q.nd.2.length ≤ 5 ∧ q.pl + (if q.inst = true then 1 else 0) ≤ q.nd.2.length := by
  intro q hq
  obtain ⟨i, hi, rfl⟩ := List.getElem_of_mem hq
  obtain ⟨e1, e2⟩ := are i _ (List.getElem?_eq_getElem hi)
  have hA := at_down (k := k) hT i (by omega)
  have hlv := hA.lvl
  have hm := hA.may
  rw [← e1] at hlv hm
  obtain ⟨⟨_, _, h5, hne⟩, _⟩ := mayN_of hm
  refine ⟨⟨by omega, by omega⟩, h5, ?_⟩
  generalize l[i] = q at *
  unfold stpN at e2
  split at e2
  · simp only [Prod.mk.injEq] at e2
    rw [e2.1, e2.2]
    split
    · rename_i ht
      exact place_in ht
    · exact placeN_le _ _
  · simp only [Prod.mk.injEq] at e2
    rw [e2.1, e2.2]
    exact way_in k (hne (by omega))

set_option maxRecDepth 100000 in
set_option maxHeartbeats 8000000 in
theorem putPut_any (qa qb qc qd : Option Addr × Nat × Nat) (s : Rm) (a : Int) (x : It) (E : Option Addr) (ce : Nat) (w : World) (h : Sto (Old w) w (.agg #[.slice qa.1 qa.2.1 qa.2.2, .slice qb.1 qb.2.1 qb.2.2, .slice qc.1 qc.2.1 qc.2.2, .slice qd.1 qd.2.1 qd.2.2]) s) (hx : Itm (Old w) w (itV x (.slice E x.2.2.length ce)) x) :
    Calls Tryz.prog 10 #[.agg #[.slice qa.1 qa.2.1 qa.2.2, .slice qb.1 qb.2.1 qb.2.2, .slice qc.1 qc.2.1 qc.2.2, .slice qd.1 qd.2.1 qd.2.2], .int .i64 a, itV x (.slice E x.2.2.length ce)] w (PutR s a x w) := by
  obtain ⟨w1, hw1, b1, hs1, hB1⟩ := box_4 w (.slice qa.1 qa.2.1 qa.2.2) (.slice qb.1 qb.2.1 qb.2.2) (.slice qc.1 qc.2.1 qc.2.2) (.slice qd.1 qd.2.1 qd.2.2) 29
  obtain ⟨w2, hw2, -, -, -, -, -, hs2, hB2, b2⟩ := box_five w1 (.int .u8 (x.1.1.toNat : Int)) (.int .u32 x.1.2.1) (.int .u32 x.1.2.2) (.int .i64 x.2.1) (.slice E x.2.2.length ce) 40
  obtain ⟨w3, hw3, b3, hs3, hB3⟩ := box_4 w2 (.slice none 0 0) (.slice none 0 0) (.slice none 0 0) (.slice none 0 0) 29
  have hB12 := hB1.trans (hB2.mono hB1.size)
  have hB13 := hB12.trans (hB3.mono hB12.size)
  have B3 := Lib.hid hB13
  have SZ := Lib.hid (show w1.heap.size = w.heap.size + 1 ∧ w2.heap.size = w.heap.size + 2 ∧ w3.heap.size = w.heap.size + 3 from by omega)
  have G1 := Lib.hid ((hB3.block w.heap.size (by omega)).trans ((hB2.block w.heap.size (by omega)).trans b1))
  have G2 := Lib.hid ((hB3.block w1.heap.size (by omega)).trans b2)
  have G3 := Lib.hid b3
  have hS0 := Lib.hid h
  have hX0 := Lib.hid hx
  have HS := Lib.hid (fun W (hW : Below w3.heap.size w3 W) => h.below (hB13.trans (hW.mono hB13.size)))
  have HX := Lib.hid (fun W (hW : Below w3.heap.size w3 W) => hx.below (hB13.trans (hW.mono hB13.size)))
  have KC := Lib.hid (fun W (hW : Below w3.heap.size w3 W) => And.intro ((hW.block w.heap.size (by omega)).trans G1.out) (And.intro ((hW.block w1.heap.size (by omega)).trans G2.out) ((hW.block w2.heap.size (by omega)).trans G3.out)))
  have hzero : Hid (∀ (er : Int) (W : World) (v0 v1 v2 v3 : Value) (l : List Sv), W.heap[w2.heap.size]? = some (.cells #[v0, v1, v2, v3] 29 (0, 0)) → Below w.heap.size w W → (ckE s a = 0 → citE s x = 0 → WayL s x.1 a l) → putS s a x l = (er, emptyR, 0) →
      ∃ W9, (((W.setCell ⟨w2.heap.size, 0, none⟩ (.slice none 0 0)).setCell ⟨w2.heap.size, 1, none⟩ (.slice none 0 0)).setCell ⟨w2.heap.size, 2, none⟩ (.slice none 0 0)).setCell ⟨w2.heap.size, 3, none⟩ (.slice none 0 0) = W9 ∧
      W9.cell? ⟨w2.heap.size, 0, none⟩ = some (.slice none 0 0) ∧ W9.cell? ⟨w2.heap.size, 1, none⟩ = some (.slice none 0 0) ∧ W9.cell? ⟨w2.heap.size, 2, none⟩ = some (.slice none 0 0) ∧ W9.cell? ⟨w2.heap.size, 3, none⟩ = some (.slice none 0 0) ∧
      PutR s a x w (.returned (.tuple #[.agg #[.slice none 0 0, .slice none 0 0, .slice none 0 0, .slice none 0 0], .int .i64 0, .int .i64 er])) W9) := Lib.hid fun er W v0 v1 v2 v3 l bW hW hl he => by
    obtain ⟨W9, e9, g9, gr9, _⟩ := put_four (a' := .slice none 0 0) (b' := .slice none 0 0) (c' := .slice none 0 0) (d' := .slice none 0 0) bW
    obtain ⟨k0, k1, k2, k3, _⟩ := four_cells g9
    exact ⟨W9, e9, k0, k1, k2, k3, l, (none, 0, 0), (none, 0, 0), (none, 0, 0), (none, 0, 0), hl, by rw [he], by rw [he]; exact sto_empty _ _, hW.grown gr9 hW.size (fun q e => by cases e; omega)⟩
  have hC3 := KC.out w3 (Below.refl _ _)
  obtain ⟨k0, k1, k2, k3, _⟩ := four_cells hC3.1
  replace hs1 := Lib.hid hs1
  replace hs2 := Lib.hid hs2
  replace hs3 := Lib.hid hs3
  clear h hx hB1 hB2 hB3 hB12 hB13 b1 b2 b3 hC3
  unfold itV
  go_enter Tryz.func10, Tryz.ntmps10
  go_upto_region 1 with fail
  clear hw1 hw2 hw3
  go_wp2_with fail
  with_reducible refine (findCheck_any _ s a w3 (HS.out w3 (Below.refl _ _))).mono ?_
  rintro e w4 ⟨rfl, hb4⟩
  clear k0 k1 k2 k3
  obtain ⟨c4a, c4b, c4c⟩ := KC.out w4 hb4
  obtain ⟨k0, k1, k2, k3, _⟩ := four_cells c4a
  obtain ⟨n0, n1, n2, n3, n4, _⟩ := five_cells c4b
  obtain ⟨u0, u1, u2, u3, uf, _⟩ := four_cells c4c
  have hckh : Hid (ckE s a = 0 → ckH s a = (rmV s a).1 + 1 ∧ treeO s a = true ∧ asE s a = 0) := Lib.hid fun h => by
    obtain ⟨h1, h2, h3⟩ := ck_of h
    exact ⟨h3, h1, h2⟩
  have hpl0 : Hid (ckE s a ≠ 0 → ∀ l, putS s a x l = (ckE s a, emptyR, 0)) := Lib.hid fun h l => by unfold putS; rw [if_pos h]
  have hc0 : Hid (ckE s a ≠ 0 → ∀ l, ckE s a = 0 → citE s x = 0 → WayL s x.1 a l) := Lib.hid fun h l h' => absurd h' h
  obtain ⟨ck, hck⟩ : ∃ q, ckE s a = q := ⟨_, rfl⟩
  obtain ⟨Hh, hH⟩ : ∃ q, ckH s a = q := ⟨_, rfl⟩
  rw [hck, hH]
  go_upto_region 2 with fail
  by_cases hk : ck = 0
  case neg =>
    have t0 : (ck != 0) = true := by simpa using hk
    obtain ⟨W9, e9, y0, y1, y2, y3, hfin⟩ := hzero.out ck w4 _ _ _ _ [] c4c (B3.out.trans (hb4.mono B3.out.size)) (hc0.out (by rw [hck]; exact hk) []) (by rw [hpl0.out (by rw [hck]; exact hk), hck])
    replace hfin := Lib.hid hfin
    go_wp2_with fail
    exact bodyPost_ret (v := .tuple #[.agg #[.slice none 0 0, .slice none 0 0, .slice none 0 0, .slice none 0 0], .int .i64 0, .int .i64 ck]) (by simp [results, Tryz.results10, go_sem, y0, y1, y2, y3]) rfl hfin.out
  subst hk
  obtain ⟨eH, htr, has⟩ := hckh.out hck
  obtain ⟨-, -, hmr, -⟩ := as_read has
  obtain ⟨-, -, -, l0, l6, -⟩ := tree_of htr
  have hT := Lib.hid (tree_at htr)
  have hci := checkItem_any (.agg #[.slice qa.1 qa.2.1 qa.2.2, .slice qb.1 qb.2.1 qb.2.2, .slice qc.1 qc.2.1 qc.2.2, .slice qd.1 qd.2.1 qd.2.2]) (itV x (.slice E x.2.2.length ce)) s x w4 hmr (HS.out w4 hb4) (HX.out w4 hb4)
  have hci' := Lib.hid hci
  have hlv := Lib.hid (show ∃ lv : Nat, (rmV s a).1 = (lv : Int) ∧ (rmV s a).1.toNat = lv ∧ lv < 6 from ⟨(rmV s a).1.toNat, by omega, rfl, by omega⟩)
  have hB4 := Lib.hid hb4
  have hck' := Lib.hid hck
  have hdone : Hid (∀ l, putS s a x l = if citE s x ≠ 0 then (citE s x, emptyR, 0)
    else if (rmV s a).1 = 5 ∧ partF l.reverse 1 = true then (120, emptyR, 0)
    else if (growO s l x).1 ≠ 0 then ((growO s l x).1, emptyR, 0)
    else if lvE (growO s l x).2.1 a ≠ 0 then (lvE (growO s l x).2.1 a, emptyR, 0)
    else (0, lvV (growO s l x).2.1 a, (growO s l x).2.2)) := Lib.hid fun l => by
    unfold putS
    rw [if_neg (by rw [hck]; decide)]
  clear hci l0 l6 hmr has htr hb4 hck c4a c4b
  unfold itV at hci'
  obtain ⟨ci, hcie⟩ : ∃ q, citE s x = q := ⟨_, rfl⟩
  rw [hcie] at hci'
  go_upto_region 4 with fail
  go_wp2_with fail
  with_reducible refine hci'.out.mono ?_
  rintro e w5 ⟨rfl, hb5⟩
  clear k0 k1 k2 k3 n0 n1 n2 n3 n4 u0 u1 u2 u3 uf hci'
  have B5 := Lib.hid (hB4.out.trans (hb5.mono hB4.out.size))
  clear hb5
  obtain ⟨c5a, c5b, c5c⟩ := KC.out w5 B5.out
  obtain ⟨k0, k1, k2, k3, _⟩ := four_cells c5a
  obtain ⟨n0, n1, n2, n3, n4, _⟩ := five_cells c5b
  obtain ⟨u0, u1, u2, u3, uf, _⟩ := four_cells c5c
  clear c5a c5b
  go_upto_region 5 with fail
  by_cases hk : ci = 0
  case neg =>
    have t0 : (ci != 0) = true := by simpa using hk
    obtain ⟨W9, e9, y0, y1, y2, y3, hfin⟩ := hzero.out ci w5 _ _ _ _ [] c5c (B3.out.trans (B5.out.mono B3.out.size)) (fun _ h => absurd (hcie ▸ h) hk) (by rw [hdone.out, hcie, if_pos hk])
    replace hfin := Lib.hid hfin
    go_wp2_with fail
    exact bodyPost_ret (v := .tuple #[.agg #[.slice none 0 0, .slice none 0 0, .slice none 0 0, .slice none 0 0], .int .i64 0, .int .i64 ci]) (by simp [results, Tryz.results10, go_sem, y0, y1, y2, y3]) rfl hfin.out
  subst hk
  obtain ⟨lv, elv, enat, lv6⟩ := hlv.out
  have hdone2 : Hid (∀ l, putS s a x l = if (rmV s a).1 = 5 ∧ partF l.reverse 1 = true then (120, emptyR, 0)
    else if (growO s l x).1 ≠ 0 then ((growO s l x).1, emptyR, 0)
    else if lvE (growO s l x).2.1 a ≠ 0 then (lvE (growO s l x).2.1 a, emptyR, 0)
    else (0, lvV (growO s l x).2.1 a, (growO s l x).2.2)) := Lib.hid fun l => by
    rw [hdone.out, if_neg (by rw [hcie]; decide)]
  rw [enat] at hT
  have eH' : (lv : Int) + 1 = Hh := by omega
  have hway := way_any qa qb qc qd s a lv lv6 x.1 w5 (HS.out w5 B5.out) hT.out
  rw [eH'] at hway
  unfold kyV at hway
  have hway' := Lib.hid hway
  have elv' := Lib.hid elv
  have enat' := Lib.hid enat
  have eH2 := Lib.hid eH'
  clear hway elv enat hlv hdone hcie eH eH' c5c
  replace hH := Lib.hid hH
  go_upto_region 7 with fail
  go_wp2_with fail
  with_reducible refine hway'.out.mono ?_
  rintro e w6 ⟨A, c, l, rfl, hll, hW, hb6⟩
  clear k0 k1 k2 k3 n0 n1 n2 n3 n4 u0 u1 u2 u3 uf hway'
  have B6 := Lib.hid (B5.out.trans (hb6.mono B5.out.size))
  obtain ⟨m, hm⟩ : ∃ q, l.length = q := ⟨_, rfl⟩
  have hW' := Lib.hid hW
  have hB56 := Lib.hid hb6
  rw [hm]
  have hwl : Hid (WayL s x.1 a l) := Lib.hid ⟨by rw [enat'.out]; exact hll, hW.are⟩
  have hm6 : m ≤ 6 := by omega
  have hq := Lib.hid (way_ok hT.out hll lv6 hW.are)
  replace hm := Lib.hid hm
  have hll := Lib.hid hll
  clear hW hb6
  obtain ⟨c6a, c6b, c6c⟩ := KC.out w6 B6.out
  obtain ⟨k0, k1, k2, k3, _⟩ := four_cells c6a
  obtain ⟨n0, n1, n2, n3, n4, _⟩ := five_cells c6b
  obtain ⟨u0, u1, u2, u3, uf, _⟩ := four_cells c6c
  clear c6a c6b
  go_upto_region 10 with fail
  have hpl2 : Hid ((rmV s a).1 = 5 ↔ Hh = 6) := Lib.hid (by have := eH2.out; have := elv'.out; omega)
  by_cases h6 : Hh = 6
  case neg =>
    have t6 : (Hh == 6) = false := by simpa using h6
    have hpart : Hid (putS s a x l = if (growO s l x).1 ≠ 0 then ((growO s l x).1, emptyR, 0)
      else if lvE (growO s l x).2.1 a ≠ 0 then (lvE (growO s l x).2.1 a, emptyR, 0)
      else (0, lvV (growO s l x).2.1 a, (growO s l x).2.2)) := Lib.hid (by rw [hdone2.out, if_neg (fun h => h6 (hpl2.out.1 h.1))])
    have BW : Hid (Below w6.heap.size w6 w6) := Lib.hid (Below.refl _ _)
    have hgrw := Lib.hid (grow_any w.heap.size w5.heap.size (by have := B3.out.size; have := B5.out.size; omega) qa qb qc qd s A m c l E ce x w6 (by have := hB56.out.size; have := BW.out.size; omega)
      (hS0.out.map fun p v hp hc => ⟨hp, ((B3.out.trans (B6.out.mono B3.out.size)).trans (BW.out.mono (B3.out.trans (B6.out.mono B3.out.size)).size)).cell hp |>.trans hc⟩)
      (by have := (hW'.out.below BW.out).row; rw [hm.out] at this; exact this) hm.out hm6 (hW'.out.below BW.out).rows hW'.out.off hq.out
      (hX0.out.map fun p v hp hc => ⟨hp, ((B3.out.trans (B6.out.mono B3.out.size)).trans (BW.out.mono (B3.out.trans (B6.out.mono B3.out.size)).size)).cell hp |>.trans hc⟩))
    have hgrw' := hgrw.out
    unfold itV at hgrw'
    have hgrw := Lib.hid hgrw'
    clear hgrw'
    go_upto_region 12 with fail
    go_wp2_with fail
    with_reducible refine hgrw.out.mono ?_
    rintro e w8 ⟨pa, pb, pc, pd, rfl, hS8, hb8⟩
    clear k0 k1 k2 k3 n0 n1 n2 n3 n4 u0 u1 u2 u3 uf hgrw
    have hc8 := Lib.hid ((hb8.block w2.heap.size (by have := SZ.out; have := B5.out.size; omega)).trans (KC.out w6 (B6.out.trans (BW.out.mono B6.out.size))).2.2)
    have BwW := (B3.out.trans (B6.out.mono B3.out.size)).trans (BW.out.mono (B3.out.trans (B6.out.mono B3.out.size)).size)
    have B8 := Lib.hid (BwW.trans (hb8.mono (by have := B3.out.size; have := B5.out.size; omega)))
    clear BwW
    obtain ⟨G, hG⟩ : ∃ q, growO s l x = q := ⟨_, rfl⟩
    obtain ⟨ge, gs, gn⟩ := G
    rw [hG] at hS8 ⊢
    obtain ⟨u0, u1, u2, u3, uf, _⟩ := four_cells hc8.out
    obtain ⟨w9, hw9, g9, gr9, gs9⟩ := put_four (a' := .slice pa.1 pa.2.1 pa.2.2) (b' := .slice pb.1 pb.2.1 pb.2.2) (c' := .slice pc.1 pc.2.1 pc.2.2) (d' := .slice pd.1 pd.2.1 pd.2.2) hc8.out
    have B9 := Lib.hid (B8.out.grown gr9 B8.out.size (fun q e => by cases e; have := SZ.out; omega))
    have S9 : Hid (Sto (Old w9) w9 (.agg #[.slice pa.1 pa.2.1 pa.2.2, .slice pb.1 pb.2.1 pb.2.2, .slice pc.1 pc.2.1 pc.2.2, .slice pd.1 pd.2.1 pd.2.2]) gs) := Lib.hid (hS8.map fun p v hp hc => by
      have hb := gr9.block p.block hp.2 (fun e => by have := Option.some.inj e; have := SZ.out; have := B6.out.size; have := BW.out.size; rcases hp.1 with h | h <;> omega)
      exact ⟨Nat.lt_of_lt_of_le hp.2 gr9.size, (World.cell?_of_block hb).trans hc⟩)
    have hG' := Lib.hid hG
    obtain ⟨k0, k1, k2, k3, kf, _⟩ := four_cells g9
    have g9' := Lib.hid g9
    have hgs := Lib.hid gs9
    clear hS8 hb8 hG gr9 gs9 g9
    replace hc8 := Lib.hid hc8
    go_upto_region 13 with fail
    clear u0 u1 u2 u3 uf hw9
    by_cases hge : ge = 0
    case neg =>
      have t0 : (ge != 0) = true := by simpa using hge
      obtain ⟨W9, e9, y0, y1, y2, y3, hfin⟩ := hzero.out ge w9 _ _ _ _ l g9'.out (B9.out) (fun _ _ => hwl.out) (by rw [hpart.out, hG'.out, if_pos hge])
      replace hfin := Lib.hid hfin
      go_wp2_with fail
      exact bodyPost_ret (v := .tuple #[.agg #[.slice none 0 0, .slice none 0 0, .slice none 0 0, .slice none 0 0], .int .i64 0, .int .i64 ge]) (by simp [results, Tryz.results10, go_sem, y0, y1, y2, y3]) rfl hfin.out
    subst hge
    have hlv := leaveV_four _ gs a w9 S9.out
    obtain ⟨le, hle⟩ : ∃ q, lvE gs a = q := ⟨_, rfl⟩
    rw [hle] at hlv
    go_upto_region 15 with fail
    go_wp2_with fail
    with_reducible refine hlv.mono ?_
    rintro e w10 ⟨ra, rb, rc, rd, rfl, hS10, hb10⟩
    clear k0 k1 k2 k3 kf hlv
    have hc10 := (hb10.block w2.heap.size (by have := SZ.out; have := B9.out.size; have := hgs.out; have := (Array.getElem?_eq_some_iff.1 g9'.out).1; omega)).trans g9'.out
    obtain ⟨u0, u1, u2, u3, uf, _⟩ := four_cells hc10
    obtain ⟨w11, hw11, g11, gr11, gs11⟩ := put_four (a' := .slice ra.1 ra.2.1 ra.2.2) (b' := .slice rb.1 rb.2.1 rb.2.2) (c' := .slice rc.1 rc.2.1 rc.2.2) (d' := .slice rd.1 rd.2.1 rd.2.2) hc10
    have B11 := Lib.hid ((B9.out.trans (hb10.mono B9.out.size)).grown gr11 (B9.out.trans (hb10.mono B9.out.size)).size (fun q e => by cases e; have := SZ.out; omega))
    have hlt9 := Lib.hid (show w2.heap.size < w9.heap.size from (Array.getElem?_eq_some_iff.1 g9'.out).1)
    have S11 := Lib.hid (hS10.grown gr11 (fun q e => by cases e; exact hlt9.out))
    obtain ⟨k0, k1, k2, k3, kf, _⟩ := four_cells g11
    have g11' := Lib.hid g11
    clear hS10 hb10 hc10 gr11 gs11 g11
    go_upto_region 16 with fail
    clear u0 u1 u2 u3 uf hw11
    by_cases hle0 : le = 0
    case neg =>
      have t0 : (le != 0) = true := by simpa using hle0
      obtain ⟨W9, e9, y0, y1, y2, y3, hfin⟩ := hzero.out le w11 _ _ _ _ l g11'.out (B11.out) (fun _ _ => hwl.out) (by rw [hpart.out, hG'.out, if_neg (fun h => h rfl), hle, if_pos hle0])
      replace hfin := Lib.hid hfin
      go_wp2_with fail
      exact bodyPost_ret (v := .tuple #[.agg #[.slice none 0 0, .slice none 0 0, .slice none 0 0, .slice none 0 0], .int .i64 0, .int .i64 le]) (by simp [results, Tryz.results10, go_sem, y0, y1, y2, y3]) rfl hfin.out
    subst hle0
    obtain ⟨W9, hW9, g12, gr12, gs12⟩ := put_four (a' := .slice ra.1 ra.2.1 ra.2.2) (b' := .slice rb.1 rb.2.1 rb.2.2) (c' := .slice rc.1 rc.2.1 rc.2.2) (d' := .slice rd.1 rd.2.1 rd.2.2) g11'.out
    obtain ⟨y0, y1, y2, y3, _, _⟩ := four_cells g12
    have hfin : Hid (PutR s a x w (.returned (.tuple #[.agg #[.slice ra.1 ra.2.1 ra.2.2, .slice rb.1 rb.2.1 rb.2.2, .slice rc.1 rc.2.1 rc.2.2, .slice rd.1 rd.2.1 rd.2.2], .int .i64 gn, .int .i64 0])) W9) := Lib.hid (by
      have hp : putS s a x l = (0, lvV gs a, gn) := by rw [hpart.out, hG'.out, if_neg (fun h => h rfl), hle, if_neg (fun h => h rfl)]
      exact ⟨l, ra, rb, rc, rd, fun _ _ => hwl.out, by rw [hp], by rw [hp]; exact (S11.out.grown gr12 (fun q e => by cases e; exact hlt9.out)).new B9.out.size (Below.refl _ _), B11.out.grown gr12 B11.out.size (fun q e => by cases e; have := SZ.out; omega)⟩)
    replace g12 := Lib.hid g12
    clear gr12 gs12
    go_wp2_with fail
    exact bodyPost_ret (v := .tuple #[.agg #[.slice ra.1 ra.2.1 ra.2.2, .slice rb.1 rb.2.1 rb.2.2, .slice rc.1 rc.2.1 rc.2.2, .slice rd.1 rd.2.1 rd.2.2], .int .i64 gn, .int .i64 0]) (by simp [results, Tryz.results10, go_sem, y0, y1, y2, y3]) rfl hfin.out
  subst h6
  have hpa := parts_any A m c l w5.heap.size w6 (by have := hW'.out.row; rw [hm.out] at this; exact this) hm.out (by omega) (fun q hq' => (hq.out q hq').2.1)
  obtain ⟨pf, hpf⟩ : ∃ q, partF l.reverse 1 = q := ⟨_, rfl⟩
  rw [hpf] at hpa
  go_wp2_with fail
  with_reducible refine hpa.mono ?_
  rintro e w7 ⟨rfl, hb7⟩
  have BW := Lib.hid hb7
  clear hb7 hpa k0 k1 k2 k3 n0 n1 n2 n3 n4 u0 u1 u2 u3 uf c6c
  obtain ⟨c7a, c7b, c7c⟩ := KC.out w7 (B6.out.trans (BW.out.mono B6.out.size))
  obtain ⟨k0, k1, k2, k3, _⟩ := four_cells c7a
  obtain ⟨n0, n1, n2, n3, n4, _⟩ := five_cells c7b
  obtain ⟨u0, u1, u2, u3, uf, _⟩ := four_cells c7c
  clear c7a c7b
  cases pf with
  | true =>
    obtain ⟨W9, e9, y0, y1, y2, y3, hfin⟩ := hzero.out 120 w7 _ _ _ _ l c7c ((B3.out.trans (B6.out.mono B3.out.size)).trans (BW.out.mono (B3.out.trans (B6.out.mono B3.out.size)).size)) (fun _ _ => hwl.out) (by rw [hdone2.out, if_pos ⟨hpl2.out.2 (by trivial), hpf⟩])
    replace hfin := Lib.hid hfin
    go_wp2_with fail
    exact bodyPost_ret (v := .tuple #[.agg #[.slice none 0 0, .slice none 0 0, .slice none 0 0, .slice none 0 0], .int .i64 0, .int .i64 120]) (by simp [results, Tryz.results10, go_sem, y0, y1, y2, y3]) rfl hfin.out
  | false =>
    have hpart : Hid (putS s a x l = if (growO s l x).1 ≠ 0 then ((growO s l x).1, emptyR, 0)
      else if lvE (growO s l x).2.1 a ≠ 0 then (lvE (growO s l x).2.1 a, emptyR, 0)
      else (0, lvV (growO s l x).2.1 a, (growO s l x).2.2)) := Lib.hid (by rw [hdone2.out, if_neg (fun h => by rw [hpf] at h; cases h.2)])
    have hgrw := Lib.hid (grow_any w.heap.size w5.heap.size (by have := B3.out.size; have := B5.out.size; omega) qa qb qc qd s A m c l E ce x w7 (by have := hB56.out.size; have := BW.out.size; omega)
      (hS0.out.map fun p v hp hc => ⟨hp, ((B3.out.trans (B6.out.mono B3.out.size)).trans (BW.out.mono (B3.out.trans (B6.out.mono B3.out.size)).size)).cell hp |>.trans hc⟩)
      (by have := (hW'.out.below BW.out).row; rw [hm.out] at this; exact this) hm.out hm6 (hW'.out.below BW.out).rows hW'.out.off hq.out
      (hX0.out.map fun p v hp hc => ⟨hp, ((B3.out.trans (B6.out.mono B3.out.size)).trans (BW.out.mono (B3.out.trans (B6.out.mono B3.out.size)).size)).cell hp |>.trans hc⟩))
    have hgrw' := hgrw.out
    unfold itV at hgrw'
    have hgrw := Lib.hid hgrw'
    clear hgrw'
    go_upto_region 12 with fail
    go_wp2_with fail
    with_reducible refine hgrw.out.mono ?_
    rintro e w8 ⟨pa, pb, pc, pd, rfl, hS8, hb8⟩
    clear k0 k1 k2 k3 n0 n1 n2 n3 n4 u0 u1 u2 u3 uf hgrw
    have hc8 := Lib.hid ((hb8.block w2.heap.size (by have := SZ.out; have := B5.out.size; omega)).trans (KC.out w7 (B6.out.trans (BW.out.mono B6.out.size))).2.2)
    have BwW := (B3.out.trans (B6.out.mono B3.out.size)).trans (BW.out.mono (B3.out.trans (B6.out.mono B3.out.size)).size)
    have B8 := Lib.hid (BwW.trans (hb8.mono (by have := B3.out.size; have := B5.out.size; omega)))
    clear BwW
    obtain ⟨G, hG⟩ : ∃ q, growO s l x = q := ⟨_, rfl⟩
    obtain ⟨ge, gs, gn⟩ := G
    rw [hG] at hS8 ⊢
    obtain ⟨u0, u1, u2, u3, uf, _⟩ := four_cells hc8.out
    obtain ⟨w9, hw9, g9, gr9, gs9⟩ := put_four (a' := .slice pa.1 pa.2.1 pa.2.2) (b' := .slice pb.1 pb.2.1 pb.2.2) (c' := .slice pc.1 pc.2.1 pc.2.2) (d' := .slice pd.1 pd.2.1 pd.2.2) hc8.out
    have B9 := Lib.hid (B8.out.grown gr9 B8.out.size (fun q e => by cases e; have := SZ.out; omega))
    have S9 : Hid (Sto (Old w9) w9 (.agg #[.slice pa.1 pa.2.1 pa.2.2, .slice pb.1 pb.2.1 pb.2.2, .slice pc.1 pc.2.1 pc.2.2, .slice pd.1 pd.2.1 pd.2.2]) gs) := Lib.hid (hS8.map fun p v hp hc => by
      have hb := gr9.block p.block hp.2 (fun e => by have := Option.some.inj e; have := SZ.out; have := B6.out.size; have := BW.out.size; rcases hp.1 with h | h <;> omega)
      exact ⟨Nat.lt_of_lt_of_le hp.2 gr9.size, (World.cell?_of_block hb).trans hc⟩)
    have hG' := Lib.hid hG
    obtain ⟨k0, k1, k2, k3, kf, _⟩ := four_cells g9
    have g9' := Lib.hid g9
    have hgs := Lib.hid gs9
    clear hS8 hb8 hG gr9 gs9 g9
    replace hc8 := Lib.hid hc8
    go_upto_region 13 with fail
    clear u0 u1 u2 u3 uf hw9
    by_cases hge : ge = 0
    case neg =>
      have t0 : (ge != 0) = true := by simpa using hge
      obtain ⟨W9, e9, y0, y1, y2, y3, hfin⟩ := hzero.out ge w9 _ _ _ _ l g9'.out (B9.out) (fun _ _ => hwl.out) (by rw [hpart.out, hG'.out, if_pos hge])
      replace hfin := Lib.hid hfin
      go_wp2_with fail
      exact bodyPost_ret (v := .tuple #[.agg #[.slice none 0 0, .slice none 0 0, .slice none 0 0, .slice none 0 0], .int .i64 0, .int .i64 ge]) (by simp [results, Tryz.results10, go_sem, y0, y1, y2, y3]) rfl hfin.out
    subst hge
    have hlv := leaveV_four _ gs a w9 S9.out
    obtain ⟨le, hle⟩ : ∃ q, lvE gs a = q := ⟨_, rfl⟩
    rw [hle] at hlv
    go_upto_region 15 with fail
    go_wp2_with fail
    with_reducible refine hlv.mono ?_
    rintro e w10 ⟨ra, rb, rc, rd, rfl, hS10, hb10⟩
    clear k0 k1 k2 k3 kf hlv
    have hc10 := (hb10.block w2.heap.size (by have := SZ.out; have := B9.out.size; have := hgs.out; have := (Array.getElem?_eq_some_iff.1 g9'.out).1; omega)).trans g9'.out
    obtain ⟨u0, u1, u2, u3, uf, _⟩ := four_cells hc10
    obtain ⟨w11, hw11, g11, gr11, gs11⟩ := put_four (a' := .slice ra.1 ra.2.1 ra.2.2) (b' := .slice rb.1 rb.2.1 rb.2.2) (c' := .slice rc.1 rc.2.1 rc.2.2) (d' := .slice rd.1 rd.2.1 rd.2.2) hc10
    have B11 := Lib.hid ((B9.out.trans (hb10.mono B9.out.size)).grown gr11 (B9.out.trans (hb10.mono B9.out.size)).size (fun q e => by cases e; have := SZ.out; omega))
    have hlt9 := Lib.hid (show w2.heap.size < w9.heap.size from (Array.getElem?_eq_some_iff.1 g9'.out).1)
    have S11 := Lib.hid (hS10.grown gr11 (fun q e => by cases e; exact hlt9.out))
    obtain ⟨k0, k1, k2, k3, kf, _⟩ := four_cells g11
    have g11' := Lib.hid g11
    clear hS10 hb10 hc10 gr11 gs11 g11
    go_upto_region 16 with fail
    clear u0 u1 u2 u3 uf hw11
    by_cases hle0 : le = 0
    case neg =>
      have t0 : (le != 0) = true := by simpa using hle0
      obtain ⟨W9, e9, y0, y1, y2, y3, hfin⟩ := hzero.out le w11 _ _ _ _ l g11'.out (B11.out) (fun _ _ => hwl.out) (by rw [hpart.out, hG'.out, if_neg (fun h => h rfl), hle, if_pos hle0])
      replace hfin := Lib.hid hfin
      go_wp2_with fail
      exact bodyPost_ret (v := .tuple #[.agg #[.slice none 0 0, .slice none 0 0, .slice none 0 0, .slice none 0 0], .int .i64 0, .int .i64 le]) (by simp [results, Tryz.results10, go_sem, y0, y1, y2, y3]) rfl hfin.out
    subst hle0
    obtain ⟨W9, hW9, g12, gr12, gs12⟩ := put_four (a' := .slice ra.1 ra.2.1 ra.2.2) (b' := .slice rb.1 rb.2.1 rb.2.2) (c' := .slice rc.1 rc.2.1 rc.2.2) (d' := .slice rd.1 rd.2.1 rd.2.2) g11'.out
    obtain ⟨y0, y1, y2, y3, _, _⟩ := four_cells g12
    have hfin : Hid (PutR s a x w (.returned (.tuple #[.agg #[.slice ra.1 ra.2.1 ra.2.2, .slice rb.1 rb.2.1 rb.2.2, .slice rc.1 rc.2.1 rc.2.2, .slice rd.1 rd.2.1 rd.2.2], .int .i64 gn, .int .i64 0])) W9) := Lib.hid (by
      have hp : putS s a x l = (0, lvV gs a, gn) := by rw [hpart.out, hG'.out, if_neg (fun h => h rfl), hle, if_neg (fun h => h rfl)]
      exact ⟨l, ra, rb, rc, rd, fun _ _ => hwl.out, by rw [hp], by rw [hp]; exact (S11.out.grown gr12 (fun q e => by cases e; exact hlt9.out)).new B9.out.size (Below.refl _ _), B11.out.grown gr12 B11.out.size (fun q e => by cases e; have := SZ.out; omega)⟩)
    replace g12 := Lib.hid g12
    clear gr12 gs12
    go_wp2_with fail
    exact bodyPost_ret (v := .tuple #[.agg #[.slice ra.1 ra.2.1 ra.2.2, .slice rb.1 rb.2.1 rb.2.2, .slice rc.1 rc.2.1 rc.2.2, .slice rd.1 rd.2.1 rd.2.2], .int .i64 gn, .int .i64 0]) (by simp [results, Tryz.results10, go_sem, y0, y1, y2, y3]) rfl hfin.out
end Go.Proofs.YtogieepfimpdmaaGreat

/-
  Put, plain: what is answered is a tree with the item put in, each other tree stays, each block is counted often enough. Conditions: those that each lemma states.
-/
namespace Go.Proofs.YtogieepfimpdmaaGreat
open Go.RowKit

theorem one_cnt {z : It} {i : Nat} (h : 8 ≤ z.2.1) : cntR [z] i = if i = z.2.1.toNat then 1 else 0 := by
  show (if z.2.1 = (i : Int) then (if z.2.1 = 0 then 0 else 1) else 0) + 0 = _
  by_cases e : i = z.2.1.toNat
  · rw [if_pos (show z.2.1 = (i : Int) by omega), if_neg (show ¬ z.2.1 = 0 by omega), if_pos e]
  · rw [if_neg (show ¬ z.2.1 = (i : Int) by omega), if_neg e]
theorem freL_disk : ∀ (l : List It) (v : Rm), (freL v l).1 = v.1
  | [], _ => rfl
  | q :: r, v => by rw [freL_cons, freL_disk r]; rfl
/-- The new root. -/
theorem root_ok {s u1 T : Rm} {a : Int} {x : It} {up top : List It} {l : Nat} {P : Nat → Nat} {N N1 : List Int} (hl : l < 6) (G : GrownIs s u1 P N N1 l a up x keyZ false) (h : rootO u1 (l : Int) up = (0, T, top)) :
    ∃ (L : Nat) (z : It) (N2 : List Int), nowL top = z.2.1 ∧ KeepR s T ∧ rightO T L z.2.1 z.1 keyZ false = true ∧ itsT T L z.2.1 = putL (itsT s l a) x ∧ Enf T.1 T.2.1 (fun i => P i + if i = z.2.1.toNat then 1 else 0) N2 ∧ (∀ m ∈ N, m ∈ N2) ∧ z.2.1 ∈ N2 ∧ 8 ≤ z.2.1 ∧ T.1.2.length ≤ s.1.2.length + 2 * (l + 1) + 1 ∧ l ≤ L ∧ L ≤ l + 1 := by
  obtain ⟨z, r, ez, _⟩ := G.first
  rcases root_ways h with ⟨h1, rfl, rfl⟩ | ⟨h1, u0, h2, rfl⟩
  · have hr : r = [] := by
      rw [ez] at h1
      cases r with
      | nil => rfl
      | cons _ _ => simp at h1
    subst hr
    obtain ⟨f1, f2, f3, f4⟩ := G.ups z (by rw [ez]; exact List.mem_cons_self)
    have hi := G.its
    have ha := G.all
    rw [ez] at hi ha
    refine ⟨l, z, N1, by rw [ez]; rfl, G.keep, hi, ?_, G.enf.same fun i => by rw [ez, one_cnt f2], G.more, f1, f2, ?_, Nat.le_refl _, by omega⟩
    · rw [← ha, List.flatMap_cons]
      simp
    · have := G.writes
      omega
  · have hne : up ≠ [] := by rw [ez]; simp
    have hfew := G.few
    rcases built_ways h2 with ⟨m1, em, et⟩ | ⟨m0, _⟩
    · have m2 := (mayN_of (mk_ok m1).2.1).1.2.1
      have hin : InN ((l : Int) + 1, up) := ⟨⟨by show (-9223372036854775808 : Int) ≤ (l : Int) + 1; omega, by show (l : Int) + 1 ≤ 9223372036854775807; omega⟩, G.inI⟩
      have hrow : rowP u1 (l + 1) up keyZ false (putL (itsT s l a) x) := ⟨G.its, G.all.symm⟩
      have ec : ((l : Int) + 1) = ((l + 1 : Nat) : Int) := by omega
      obtain ⟨N2, e1, k2, e3, e4, e5, e6, _, _⟩ := built_enf h2 hin G.enf fun _ q hq => by
        obtain ⟨f1, f2, _, f4⟩ := G.ups q hq
        exact ⟨f1, by omega, by omega⟩
      obtain ⟨k3, e9⟩ := freL_enf up (s := u0) (P := fun i => P i + cntR top i) (N := N2) k2.may (e1.same fun i => by show P i + cntR top i + cntR up i = P i + cntR up i + cntR top i; omega) fun q hq => by
        obtain ⟨_, f2, _, _⟩ := G.ups q hq
        obtain ⟨n, hn, hqn⟩ := e6 q hq
        exact ⟨by omega, n, hn, q, hqn, rfl⟩
      rw [ec] at m1 em et hin
      obtain ⟨g1, g2⟩ := made_right m1 hin hne hrow
      rw [← em] at g1 g2
      obtain ⟨f1, f2, f3, f4⟩ := e5 (upI up (mkN u1 (((l + 1 : Nat) : Int), up))) (by rw [et]; exact List.mem_cons_self)
      obtain ⟨g3, g4, _⟩ := keep_right k3 (l + 1) _ _ _ _ g1
      refine ⟨l + 1, upI up (mkN u1 (((l + 1 : Nat) : Int), up)), N2, by rw [et]; rfl, ptk_trans (ptk_trans G.keep k2) k3, g3, g4.trans g2, e9.same fun i => by rw [et, one_cnt f2], fun m hm => e3 m (G.more m hm), f1, f2, ?_, by omega, Nat.le_refl _⟩
      rw [freL_disk, em]
      obtain ⟨k, _, _, _, _, _, _, hV, _⟩ := mk_counts m1
      rw [hV]
      have := G.writes
      simp only [wrD, List.length_append, List.length_cons, List.length_nil]
      omega
    · omega
end Go.Proofs.YtogieepfimpdmaaGreat

/-
  Package put, plain: what the steps of a way make is what the document's answer makes, where counts are enough. Conditions: those that each lemma states.
-/
namespace Go.Proofs.YtogieepfimpdmaaGreat
open Go.RowKit

theorem enf_as {s : Rm} {P : Nat → Nat} {N : List Int} (hm : mayR s = true) (hE : Enf s.1 s.2.1 P N) {i n : Int} {z : It} (h8 : 8 ≤ i) (h256 : i < 256) (hn : n ∈ N) (hz : z ∈ (ndD s.1 n).2) (e : z.2.1 = i) : asE s i = 0 := by
  have h1 := hE.enough i.toNat
  have h2 := cntR_has hz (k := i.toNat) (by omega) (by omega)
  have h3 := sumD_in (d := s.1) (k := i.toNat) hn
  have h4 := as_yes (s := s) (k := i.toNat) hm (by omega) (by omega) (cnt_nz.1 (by omega))
  rwa [show ((i.toNat : Nat) : Int) = i by omega] at h4
theorem lo_fre {s : Rm} {i : Int} (h : asE s i = 0) : loV s i = freR s i := by
  unfold loV
  rw [if_pos h]
  rfl
theorem loo_enf : ∀ (l : List It) {s : Rm} {P : Nat → Nat} {N : List Int}, mayR s = true → Enf s.1 s.2.1 (fun i => P i + cntR l i) N → (∀ x ∈ l, (8 ≤ x.2.1 ∧ x.2.1 < 256) ∧ ∃ n ∈ N, ∃ z ∈ (ndD s.1 n).2, z.2.1 = x.2.1) → looL l s = (0, freL s l)
  | [], _, _, _, _, _, _ => rfl
  | x :: l, s, P, N, hm, hE, hr => by
    obtain ⟨h0, n, hn, z, hz, e⟩ := hr x List.mem_cons_self
    have ha := enf_as hm hE h0.1 h0.2 hn hz e
    obtain ⟨k1, e1⟩ := fre_enf (P := fun i => P i + cntR l i) hm (hE.same fun i => by
      have ec : cntR (x :: l) i = (if x.2.1 = (i : Int) then (if x.2.1 = 0 then 0 else 1) else 0) + cntR l i := rfl
      show P i + cntR l i + (if i = x.2.1.toNat then 1 else 0) = P i + cntR (x :: l) i
      rw [ec]
      by_cases e : x.2.1 = (i : Int)
      · rw [if_pos e, if_neg (show ¬ x.2.1 = 0 by omega), if_pos (show i = x.2.1.toNat by omega)]; omega
      · rw [if_neg e, if_neg (show ¬ i = x.2.1.toNat by omega)]; omega) (a := x.2.1) (by omega) ⟨n, hn, z, hz, e⟩
    have e2 := loo_enf l (s := freR s x.2.1) (P := P) (N := N) k1.may e1 fun y hy => hr y (List.mem_cons_of_mem _ hy)
    unfold looL
    rw [if_neg (by omega), if_pos ha, lo_fre ha, e2]
    rfl

theorem growA_app : ∀ (A : List Sv) (q : Sv) (s : Rm) (F : List It), growA (A ++ [q]) s F = if (growA A s F).1 = 0 then growA [q] (growA A s F).2.1 (growA A s F).2.2 else ((growA A s F).1, emptyR, [])
  | [], q, s, F => by
    rw [List.nil_append]
    show _ = if (0 : Int) = 0 then growA [q] s F else _
    rw [if_pos rfl]
  | p :: A, q, s, F => by
    have e : ∀ B, growA (p :: B) s F = if (layO s p.nd.1 (itemsS p F) F).1 = 0 then growA B (layO s p.nd.1 (itemsS p F) F).2.1 (layO s p.nd.1 (itemsS p F) F).2.2 else ((layO s p.nd.1 (itemsS p F) F).1, emptyR, []) := fun _ => rfl
    rw [List.cons_append, e, e]
    by_cases h : (layO s p.nd.1 (itemsS p F) F).1 = 0
    · rw [if_pos h, if_pos h]
      exact growA_app A q _ _
    · rw [if_neg h, if_neg h, if_neg h]
theorem growA_one (q : Sv) (s : Rm) (F : List It) : growA [q] s F = if (layO s q.nd.1 (itemsS q F) F).1 = 0 then (0, (layO s q.nd.1 (itemsS q F) F).2.1, (layO s q.nd.1 (itemsS q F) F).2.2) else ((layO s q.nd.1 (itemsS q F) F).1, emptyR, []) := rfl
theorem partF_app : ∀ (A : List Sv) (q : Sv) (m : Nat), A ≠ [] → partF (A ++ [q]) m = (partF A m && decide (5 < lenS q 2))
  | [], _, _, h => absurd rfl h
  | [p], q, m, _ => by
    show (if lenS p m ≤ 5 then false else if lenS q 2 ≤ 5 then false else true) = ((if lenS p m ≤ 5 then false else true) && decide (5 < lenS q 2))
    split
    · rfl
    · by_cases h : lenS q 2 ≤ 5
      · rw [if_pos h]; simp; omega
      · rw [if_neg h]; simp; omega
  | p :: p' :: A, q, m, _ => by
    rw [List.cons_append]
    unfold partF
    split
    · rfl
    · exact partF_app (p' :: A) q 2 (List.cons_ne_nil _ _)

/-- A step down along an item's way. -/
theorem top_down {s : Rm} {l : Nat} {a : Int} {tb : Ky} {e : Bool} {x : It} {N : List Int} {Q : Nat → Nat} (ht : TopT s (l + 1) a tb e) (hb : e = true → lessK x.1 tb = true) (ha : a ∈ N) (hE : Enf s.1 s.2.1 Q N) :
    ∃ tb' e', TopT s l (refW (rmV s a) x.1) tb' e' ∧ (e' = true → lessK x.1 tb' = true) ∧ refW (rmV s a) x.1 ∈ N := by
  have hm := (rm_may ht.ok).1
  have hne : 0 < (rmV s a).2.length := (mayN_of hm).1.2.2.2 (by rw [ht.lv]; omega)
  obtain ⟨y, hy⟩ : ∃ y, (rmV s a).2[wayN (rmV s a) x.1]? = some y := ⟨_, List.getElem?_eq_getElem (way_in x.1 hne)⟩
  have hw := way_part hy
  have hyin : y ∈ (rmV s a).2 := List.mem_of_getElem? hy
  rw [ref_at hy]
  have hbe := fun (i : Nat) (c : It) (hi : wayN (rmV s a) x.1 < i) (hc : (rmV s a).2[i]? = some c) => way_behind hm hi hc
  have hCk : ∀ c r, (rmV s a).2.drop (wayN (rmV s a) x.1 + 1) = c :: r → lessK x.1 c.1 = true := fun c r hc => by
    refine hbe (wayN (rmV s a) x.1 + 1) c (by omega) ?_
    have := congrArg (fun l => l[0]?) hc
    simpa [List.getElem?_drop] using this
  generalize hAe : (rmV s a).2.take (wayN (rmV s a) x.1) = A at *
  generalize hCe : (rmV s a).2.drop (wayN (rmV s a) x.1 + 1) = C at *
  have hinn : itsO (rightO s l) (rmV s a).2 tb e = true := ht.inn
  rw [hw] at hinn
  rw [its_append, Bool.and_eq_true, its_cons, Bool.and_eq_true] at hinn
  obtain ⟨iA, iy, iC⟩ := hinn
  obtain ⟨hty, _⟩ := right_top iy
  refine ⟨_, _, hty, fun he => ?_, ?_⟩
  · cases hC : C with
    | nil => rw [hC] at he; exact hb he
    | cons c r => exact hCk c r hC
  · have hnd : ndD s.1 a = rmV s a := ndD_rm ht.ok
    exact (hE.shut a ha (by rw [hnd, ht.lv]; omega) y (by rw [hnd]; exact hyin)).1
theorem topW_at {s : Rm} {a : Int} {x : It} {N : List Int} {Q : Nat → Nat} {l0 : Nat} (ht : TopT s l0 a keyZ false) (ha : a ∈ N) (hE : Enf s.1 s.2.1 Q N) : ∀ j, j ≤ l0 → ∃ tb e, TopT s (l0 - j) (atW s x.1 a j) tb e ∧ (e = true → lessK x.1 tb = true) ∧ atW s x.1 a j ∈ N
  | 0, _ => ⟨keyZ, false, ht, (nomatch ·), ha⟩
  | j + 1, hj => by
    obtain ⟨tb, e, h1, h2, h3⟩ := topW_at ht ha hE j (by omega)
    rw [show l0 - j = (l0 - (j + 1)) + 1 by omega] at h1
    exact top_down h1 h2 h3 hE

/-- The leaf. -/
theorem leaf_lay {x : It} (hx : InI x) (hmx : mayI x = true) {s : Rm} {a : Int} {tb : Ky} {e : Bool} {P : Nat → Nat} {N : List Int} (ht : TopT s 0 a tb e) (hE : Enf s.1 s.2.1 (fun i => P i + hold x i) N) {q : Sv} (hq : q.nd = rmV s a) (hst : (q.pl, q.inst) = stpN q.nd x.1) :
    growA [q] s [x] = grownO x 0 s a := by
  have h0 : q.nd.1 = 0 := by rw [hq, ht.lv]; rfl
  have eL : itemsS q [x] = insL (rmV s a).2 (placeN (rmV s a) x.1) (if thereN (rmV s a) x.1 = true then 1 else 0) [x] := by
    unfold stpN at hst
    rw [if_pos h0] at hst
    simp only [Prod.mk.injEq] at hst
    unfold itemsS insL
    rw [hst.1, hst.2, hq]
  rw [growA_one, h0, eL]
  unfold grownO layO
  by_cases hb : (builtO s 0 (insL (rmV s a).2 (placeN (rmV s a) x.1) (if thereN (rmV s a) x.1 = true then 1 else 0) [x])).1 = 0
  · rw [if_pos hb, if_pos hb]
    generalize hbb : builtO s 0 (insL (rmV s a).2 (placeN (rmV s a) x.1) (if thereN (rmV s a) x.1 = true then 1 else 0) [x]) = b at hb
    obtain ⟨z, u0, up⟩ := b
    obtain rfl : z = 0 := hb
    have hm := (rm_may ht.ok).1
    have el : insL (rmV s a).2 (placeN (rmV s a) x.1) (if thereN (rmV s a) x.1 = true then 1 else 0) [x] = putL (rmV s a).2 x := leaf_put hm x
    rw [el] at hbb
    have hi : InN ((0 : Int), putL (rmV s a).2 x) := ⟨⟨by simp, by simp⟩, fun y hy => by
      rcases putL_in.1 hy with rfl | ⟨hy, _⟩
      · exact hx
      · exact (rm_in ht.ok).it y hy⟩
    obtain ⟨N', e1, k1, e3, e4, e5, e6, e7, e8⟩ := built_enf hbb hi hE fun h0 => absurd rfl h0
    have hlo : looL [x] u0 = (0, if x.2.1 = 0 then u0 else freR u0 x.2.1) := by
      by_cases hx0 : x.2.1 = 0
      · rw [if_pos hx0]
        unfold looL
        rw [if_pos hx0]
        rfl
      · rw [if_neg hx0]
        obtain ⟨n, hn, hxn⟩ := e6 x (putL_in.2 (.inl rfl))
        have hr := (mayI_of hmx).1
        have ha := enf_as k1.may e1 (i := x.2.1) (by omega) (by omega) hn hxn rfl
        unfold looL
        rw [if_neg hx0, if_pos ha, lo_fre ha]
        rfl
    rw [hlo]
    rfl
  · rw [if_neg hb, if_neg hb, if_neg hb]

/-- All along the way. -/
theorem grow_way {x : It} (hx : InI x) (hmx : mayI x = true) {s : Rm} {a : Int} {P : Nat → Nat} {N : List Int} {l0 : Nat} (h6 : l0 < 6) (ht : TopT s l0 a keyZ false) (ha : a ∈ N) (hr : x.2.1 = 0 ∨ (0 < x.2.1 ∧ s.2.1[x.2.1.toNat]?.getD 0 ≠ 0))
    (hE : Enf s.1 s.2.1 (fun i => P i + hold x i) N) {l : List Sv} (hll : l.length = l0 + 1) (are : ∀ i q, l[i]? = some q → q.nd = rmV s (atW s x.1 a i) ∧ (q.pl, q.inst) = stpN q.nd x.1) :
    ∀ (d j : Nat), j + d = l0 → growA (l.drop j).reverse s [x] = grownO x d s (atW s x.1 a j)
  | 0, j, hj => by
    obtain ⟨tb, e, h1, h2, h3⟩ := topW_at (x := x) ht ha hE j (by omega)
    have hjl : j < l.length := by omega
    obtain ⟨q, hq⟩ : ∃ q, l[j]? = some q := ⟨_, List.getElem?_eq_getElem hjl⟩
    have hd : l.drop j = [q] := by
      rw [List.drop_eq_getElem_cons hjl, (List.getElem?_eq_some_iff.1 hq).2, List.drop_of_length_le (by omega)]
    rw [hd, List.reverse_singleton]
    rw [show l0 - j = 0 by omega] at h1
    exact leaf_lay hx hmx h1 hE (are j q hq).1 (are j q hq).2
  | d + 1, j, hj => by
    obtain ⟨tb, e, h1, h2, h3⟩ := topW_at (x := x) ht ha hE j (by omega)
    have hjl : j < l.length := by omega
    obtain ⟨q, hq⟩ : ∃ q, l[j]? = some q := ⟨_, List.getElem?_eq_getElem hjl⟩
    have hd : (l.drop j).reverse = (l.drop (j + 1)).reverse ++ [q] := by
      rw [List.drop_eq_getElem_cons hjl, (List.getElem?_eq_some_iff.1 hq).2, List.reverse_cons]
    obtain ⟨a1, a2⟩ := are j q hq
    rw [show l0 - j = d + 1 by omega] at h1
    have ih := grow_way hx hmx h6 ht ha hr hE hll are d (j + 1) (by omega)
    have hat : atW s x.1 a (j + 1) = refW (rmV s (atW s x.1 a j)) x.1 := rfl
    generalize atW s x.1 a j = b at *
    rw [hat] at ih
    have hq1 : q.nd.1 = ((d + 1 : Nat) : Int) := by rw [a1, h1.lv]
    have eL : ∀ F, itemsS q F = insL (rmV s b).2 (wayN (rmV s b) x.1) 1 F := fun F => by
      unfold stpN at a2
      rw [if_neg (by omega)] at a2
      simp only [Prod.mk.injEq] at a2
      unfold itemsS insL
      rw [a2.1, a2.2, a1]
      rfl
    rw [hd, growA_app, ih]
    conv => rhs; unfold grownO
    by_cases hg : (grownO x d s (refW (rmV s b) x.1)).1 = 0
    · rw [if_pos hg, if_pos hg]
      obtain ⟨tb', e', h1', h2', h3'⟩ := top_down h1 h2 h3 hE
      generalize hgg : grownO x d s (refW (rmV s b) x.1) = g at hg
      obtain ⟨z, u1, up1⟩ := g
      obtain rfl : z = 0 := hg
      obtain ⟨N1, G⟩ := grown_ok hx hr hE d (by omega) h1' h2' h3' hgg
      rw [growA_one, eL, hq1]
      unfold layO
      by_cases hb : (builtO u1 ((d + 1 : Nat) : Int) (insL (rmV s b).2 (wayN (rmV s b) x.1) 1 up1)).1 = 0
      · rw [if_pos hb, if_pos hb]
        generalize hbb : builtO u1 ((d + 1 : Nat) : Int) (insL (rmV s b).2 (wayN (rmV s b) x.1) 1 up1) = bb at hb
        obtain ⟨z, u2, up⟩ := bb
        obtain rfl : z = 0 := hb
        have hm := (rm_may h1.ok).1
        have hin : InN (((d + 1 : Nat) : Int), insL (rmV s b).2 (wayN (rmV s b) x.1) 1 up1) := ⟨⟨by show (-9223372036854775808 : Int) ≤ ((d + 1 : Nat) : Int); omega, by show ((d + 1 : Nat) : Int) ≤ 9223372036854775807; omega⟩, fun p hp => by
          have hN := (rm_in h1.ok).it
          rcases List.mem_append.1 hp with hp | hp
          · exact hN p (List.mem_of_mem_take hp)
          · rcases List.mem_append.1 hp with hp | hp
            · exact G.inI p hp
            · exact hN p (List.mem_of_mem_drop hp)⟩
        have hnd : ndD s.1 b = rmV s b := ndD_rm h1.ok
        have hsh : ∀ p ∈ (rmV s b).2, p.2.1 ∈ N1 ∧ p.2.1 ≠ 0 ∧ (ndD u1.1 p.2.1).1 + 1 = ((d + 1 : Nat) : Int) := fun p hp => by
          have := hE.shut b h3 (by rw [hnd, h1.lv]; omega) p (by rw [hnd]; exact hp)
          rw [hnd, h1.lv] at this
          exact ⟨G.more _ this.1, this.2.1, by rw [keep_nd G.keep hE this.1]; exact this.2.2⟩
        obtain ⟨N2, e1, k2, e3, e4, e5, e6, e7, e8⟩ := built_enf hbb hin G.enf fun _ p hp => by
          rcases List.mem_append.1 hp with hp | hp
          · exact hsh p (List.mem_of_mem_take hp)
          · rcases List.mem_append.1 hp with hp | hp
            · obtain ⟨f1, f2, f3, f4⟩ := G.ups p hp
              exact ⟨f1, by omega, by rw [f4]; omega⟩
            · exact hsh p (List.mem_of_mem_drop hp)
        have hlo := loo_enf up1 (s := u2) (P := fun i => P i + cntR up i) (N := N2) k2.may (e1.same fun i => by show P i + cntR up i + cntR up1 i = P i + cntR up1 i + cntR up i; omega) fun p hp => by
          obtain ⟨_, f2, f3, _⟩ := G.ups p hp
          obtain ⟨n, hn, hpn⟩ := e6 p (List.mem_append_right _ (List.mem_append_left _ hp))
          exact ⟨⟨f2, f3⟩, n, hn, p, hpn, rfl⟩
        rw [hlo]
        rfl
      · rw [if_neg hb, if_neg hb, if_neg hb]
    · rw [if_neg hg, if_neg hg]
/-- Two nodes all along the way. -/
theorem part_way {x : It} {s : Rm} {a : Int} {l0 : Nat} (hT : AtT s l0 a) {l : List Sv} (hll : l.length = l0 + 1) (are : ∀ i q, l[i]? = some q → q.nd = rmV s (atW s x.1 a i) ∧ (q.pl, q.inst) = stpN q.nd x.1) :
    ∀ (d j : Nat), j + d = l0 → partF (l.drop j).reverse 1 = tallT s d (atW s x.1 a j) x.1
  | 0, j, hj => by
    have h1 := at_down (k := x.1) hT j (by omega)
    have hjl : j < l.length := by omega
    obtain ⟨q, hq⟩ : ∃ q, l[j]? = some q := ⟨_, List.getElem?_eq_getElem hjl⟩
    have hd : l.drop j = [q] := by
      rw [List.drop_eq_getElem_cons hjl, (List.getElem?_eq_some_iff.1 hq).2, List.drop_of_length_le (by omega)]
    obtain ⟨a1, a2⟩ := are j q hq
    have h5 := (mayN_of h1.may).1.2.2.1
    have h0 : q.nd.1 = 0 := by rw [a1, h1.lvl, show l0 - j = 0 by omega]; rfl
    unfold stpN at a2
    rw [if_pos h0] at a2
    simp only [Prod.mk.injEq] at a2
    rw [hd, List.reverse_singleton]
    unfold tallT
    rw [← a1] at h5 ⊢
    show (if lenS q 1 ≤ 5 then false else true) = _
    unfold lenS
    rw [a2.2]
    cases hth : thereN q.nd x.1 with
    | true => simp; omega
    | false =>
      rw [Bool.eq_iff_iff]
      simp
      omega
  | d + 1, j, hj => by
    have h1 := at_down (k := x.1) hT j (by omega)
    have hjl : j < l.length := by omega
    obtain ⟨q, hq⟩ : ∃ q, l[j]? = some q := ⟨_, List.getElem?_eq_getElem hjl⟩
    have hd : (l.drop j).reverse = (l.drop (j + 1)).reverse ++ [q] := by
      rw [List.drop_eq_getElem_cons hjl, (List.getElem?_eq_some_iff.1 hq).2, List.reverse_cons]
    obtain ⟨a1, a2⟩ := are j q hq
    have h0 : q.nd.1 ≠ 0 := by rw [a1, h1.lvl]; omega
    unfold stpN at a2
    rw [if_neg h0] at a2
    simp only [Prod.mk.injEq] at a2
    have ih := part_way hT hll are d (j + 1) (by omega)
    rw [hd, partF_app _ _ _ (by
      intro e
      have := congrArg List.length e
      rw [List.length_reverse, List.length_drop] at this
      simp at this
      omega), ih]
    have hat : atW s x.1 a (j + 1) = refW (rmV s (atW s x.1 a j)) x.1 := rfl
    rw [hat]
    conv => rhs; unfold tallT
    rw [Bool.and_comm]
    congr 1
    unfold lenS
    rw [a2.2, a1]
    simp
    omega
/-- The answer of grow. -/
theorem growO_is {x : It} (hx : InI x) (hmx : mayI x = true) {s : Rm} {a : Int} {P : Nat → Nat} {N : List Int} (ht : treeO s a = true) (ha : a ∈ N) (hr : x.2.1 = 0 ∨ (0 < x.2.1 ∧ s.2.1[x.2.1.toNat]?.getD 0 ≠ 0))
    (hE : Enf s.1 s.2.1 (fun i => P i + hold x i) N) {l : List Sv} (hl : WayL s x.1 a l) :
    growO s l x = (if (grownO x (rmV s a).1.toNat s a).1 = 0 then
      (if (rootO (grownO x (rmV s a).1.toNat s a).2.1 (rmV s a).1 (grownO x (rmV s a).1.toNat s a).2.2).1 = 0 then
        (0, (rootO (grownO x (rmV s a).1.toNat s a).2.1 (rmV s a).1 (grownO x (rmV s a).1.toNat s a).2.2).2.1, nowL (rootO (grownO x (rmV s a).1.toNat s a).2.1 (rmV s a).1 (grownO x (rmV s a).1.toNat s a).2.2).2.2)
        else ((rootO (grownO x (rmV s a).1.toNat s a).2.1 (rmV s a).1 (grownO x (rmV s a).1.toNat s a).2.2).1, emptyR, 0))
      else ((grownO x (rmV s a).1.toNat s a).1, emptyR, 0)) := by
  obtain ⟨r1, ra, _, l0, l6, _⟩ := tree_of ht
  have hg := grow_way hx hmx (by omega) (tree_top ht) ha hr hE hl.1 hl.2 (rmV s a).1.toNat 0 (by omega)
  rw [List.drop_zero] at hg
  have ell : ((l.length : Nat) : Int) = (rmV s a).1 + 1 := by rw [hl.1]; omega
  unfold growO
  rw [hg, ell]
  show (if (grownO x (rmV s a).1.toNat s a).1 = 0 then _ else _) = _
  by_cases h0 : (grownO x (rmV s a).1.toNat s a).1 = 0
  · rw [if_pos h0, if_pos h0]
    show (if 1 < (grownO x (rmV s a).1.toNat s a).2.2.length then _ else (0, (grownO x (rmV s a).1.toNat s a).2.1, nowL (grownO x (rmV s a).1.toNat s a).2.2)) = _
    show (if 1 < (grownO x (rmV s a).1.toNat s a).2.2.length then (if (layO (grownO x (rmV s a).1.toNat s a).2.1 ((rmV s a).1 + 1) (grownO x (rmV s a).1.toNat s a).2.2 (grownO x (rmV s a).1.toNat s a).2.2).1 = 0 then (0, (layO (grownO x (rmV s a).1.toNat s a).2.1 ((rmV s a).1 + 1) (grownO x (rmV s a).1.toNat s a).2.2 (grownO x (rmV s a).1.toNat s a).2.2).2.1, nowL (layO (grownO x (rmV s a).1.toNat s a).2.1 ((rmV s a).1 + 1) (grownO x (rmV s a).1.toNat s a).2.2 (grownO x (rmV s a).1.toNat s a).2.2).2.2) else ((layO (grownO x (rmV s a).1.toNat s a).2.1 ((rmV s a).1 + 1) (grownO x (rmV s a).1.toNat s a).2.2 (grownO x (rmV s a).1.toNat s a).2.2).1, emptyR, 0)) else (0, (grownO x (rmV s a).1.toNat s a).2.1, nowL (grownO x (rmV s a).1.toNat s a).2.2)) = _
    generalize hgg : grownO x (rmV s a).1.toNat s a = g at h0
    obtain ⟨z, u1, up⟩ := g
    obtain rfl : z = 0 := h0
    obtain ⟨N1, G⟩ := grown_ok hx hr hE _ (by omega) (tree_top ht) (fun he => by cases he) ha hgg
    unfold rootO
    by_cases h1 : 1 < up.length
    · rw [if_pos h1, if_pos h1]
      unfold layO
      by_cases hb : (builtO u1 ((rmV s a).1 + 1) up).1 = 0
      · rw [if_pos hb, if_pos hb]
        generalize hbb : builtO u1 ((rmV s a).1 + 1) up = b at hb
        obtain ⟨z, u0, top⟩ := b
        obtain rfl : z = 0 := hb
        have hin : InN ((rmV s a).1 + 1, up) := ⟨⟨by show (-9223372036854775808 : Int) ≤ (rmV s a).1 + 1; omega, by show (rmV s a).1 + 1 ≤ 9223372036854775807; omega⟩, G.inI⟩
        obtain ⟨N2, e1, k2, e3, e4, e5, e6, _, _⟩ := built_enf hbb hin G.enf fun _ q hq => by
          obtain ⟨f1, f2, _, f4⟩ := G.ups q hq
          exact ⟨f1, by omega, by omega⟩
        have hlo := loo_enf up (s := u0) (P := fun i => P i + cntR top i) (N := N2) k2.may (e1.same fun i => by show P i + cntR top i + cntR up i = P i + cntR up i + cntR top i; omega) fun p hp => by
          obtain ⟨_, f2, f3, _⟩ := G.ups p hp
          obtain ⟨n, hn, hpn⟩ := e6 p hp
          exact ⟨⟨f2, f3⟩, n, hn, p, hpn, rfl⟩
        rw [hlo]
        rfl
      · rw [if_neg hb, if_neg hb, if_neg hb]
        first | done | exact (if_neg hb).symm
    · rw [if_neg h1, if_neg h1]
      rfl
  · rw [if_neg h0, if_neg h0]
    rfl
theorem put_tail {x : It} (hx : InI x) {s : Rm} {a : Int} {P : Nat → Nat} {N : List Int} (ht : treeO s a = true) (ha : a ∈ N) (hr : x.2.1 = 0 ∨ (0 < x.2.1 ∧ s.2.1[x.2.1.toNat]?.getD 0 ≠ 0)) (hE : Enf s.1 s.2.1 (fun i => P i + hold x i) N) : ∀ {G : Int × Rm × Int},
    G = (if (grownO x (rmV s a).1.toNat s a).1 = 0 then
      (if (rootO (grownO x (rmV s a).1.toNat s a).2.1 (rmV s a).1 (grownO x (rmV s a).1.toNat s a).2.2).1 = 0 then
        (0, (rootO (grownO x (rmV s a).1.toNat s a).2.1 (rmV s a).1 (grownO x (rmV s a).1.toNat s a).2.2).2.1, nowL (rootO (grownO x (rmV s a).1.toNat s a).2.1 (rmV s a).1 (grownO x (rmV s a).1.toNat s a).2.2).2.2)
        else ((rootO (grownO x (rmV s a).1.toNat s a).2.1 (rmV s a).1 (grownO x (rmV s a).1.toNat s a).2.2).1, emptyR, 0))
      else ((grownO x (rmV s a).1.toNat s a).1, emptyR, 0)) →
    (if G.1 ≠ 0 then (G.1, emptyR, 0) else if lvE G.2.1 a ≠ 0 then (lvE G.2.1 a, emptyR, 0) else (0, lvV G.2.1 a, G.2.2)) =
    (if (grownO x (rmV s a).1.toNat s a).1 = 0 then
    if (rootO (grownO x (rmV s a).1.toNat s a).2.1 (rmV s a).1 (grownO x (rmV s a).1.toNat s a).2.2).1 = 0 then
      match lfO (rootO (grownO x (rmV s a).1.toNat s a).2.1 (rmV s a).1 (grownO x (rmV s a).1.toNat s a).2.2).2.1.1 (rootO (grownO x (rmV s a).1.toNat s a).2.1 (rmV s a).1 (grownO x (rmV s a).1.toNat s a).2.2).2.1.2.1 a.toNat with
      | none => (8, emptyR, 0)
      | some v => (0, ((rootO (grownO x (rmV s a).1.toNat s a).2.1 (rmV s a).1 (grownO x (rmV s a).1.toNat s a).2.2).2.1.1, v, (rootO (grownO x (rmV s a).1.toNat s a).2.1 (rmV s a).1 (grownO x (rmV s a).1.toNat s a).2.2).2.1.2.2), nowL (rootO (grownO x (rmV s a).1.toNat s a).2.1 (rmV s a).1 (grownO x (rmV s a).1.toNat s a).2.2).2.2)
    else ((rootO (grownO x (rmV s a).1.toNat s a).2.1 (rmV s a).1 (grownO x (rmV s a).1.toNat s a).2.2).1, emptyR, 0)
  else ((grownO x (rmV s a).1.toNat s a).1, emptyR, 0)) := fun {G} hG => by
  obtain ⟨r1, ra, _, l0, l6, _⟩ := tree_of ht
  by_cases h0 : (grownO x (rmV s a).1.toNat s a).1 = 0
  · rw [if_pos h0] at hG ⊢
    generalize hgg : grownO x (rmV s a).1.toNat s a = g at h0 hG
    obtain ⟨z, u1, up⟩ := g
    obtain rfl : z = 0 := h0
    obtain ⟨N1, W⟩ := grown_ok hx hr hE _ (by omega) (tree_top ht) (fun he => by cases he) ha hgg
    by_cases h1 : (rootO u1 (rmV s a).1 up).1 = 0
    · rw [if_pos h1] at hG
      rw [if_pos h1]
      generalize hrr : rootO u1 (rmV s a).1 up = r at h1 hG
      obtain ⟨z, T, top⟩ := r
      obtain rfl : z = 0 := h1
      have hlv : (rmV s a).1 = (((rmV s a).1.toNat : Nat) : Int) := by omega
      rw [hlv] at hrr
      obtain ⟨L, z, N2, en, k, _⟩ := root_ok (by omega) W hrr
      have haT := (keep_node k ra).1
      subst hG
      show (if (0 : Int) ≠ 0 then _ else if lvE T a ≠ 0 then (lvE T a, emptyR, 0) else (0, lvV T a, nowL top)) = (match lfO T.1 T.2.1 a.toNat with | none => (8, emptyR, 0) | some v => (0, (T.1, v, T.2.2), nowL top))
      rw [if_neg (fun h => h rfl)]
      unfold lvE lvV
      rw [if_pos haT, if_pos haT]
      cases lfO T.1 T.2.1 a.toNat with
      | none => rfl
      | some v => rfl
    · rw [if_neg h1] at hG
      rw [if_neg h1]
      subst hG
      exact if_pos h1
  · rw [if_neg h0] at hG ⊢
    subst hG
    exact if_pos h0
/-- Where counts are enough, the answer is the document's. -/
theorem putS_is {x : It} (hx : InI x) {s : Rm} {a : Int} {P : Nat → Nat} {N : List Int} (hck : ckE s a = 0) (hci : citE s x = 0) (ha : a ∈ N) (hE : Enf s.1 s.2.1 (fun i => P i + hold x i) N) {l : List Sv} (hl : WayL s x.1 a l) : putS s a x l = insO s a x ∧ putO s a x = insO s a x := by
  obtain ⟨ht, hasE, _⟩ := ck_of hck
  obtain ⟨r1, ra, _, l0, l6, _⟩ := tree_of ht
  have hmx : mayI x = true := by
    unfold citE at hci
    split at hci
    · rename_i h; exact h
    · cases hci
  have hnr : ¬ (x.2.1 ≠ 0 ∧ s.2.1[x.2.1.toNat]?.getD 0 = 0) := fun h => by
    unfold citE at hci
    rw [if_pos hmx, if_pos h] at hci
    cases hci
  have hr : x.2.1 = 0 ∨ (0 < x.2.1 ∧ s.2.1[x.2.1.toNat]?.getD 0 ≠ 0) := by
    by_cases h0 : x.2.1 = 0
    · exact .inl h0
    · have := (mayI_of hmx).1
      exact .inr ⟨by omega, fun h => hnr ⟨h0, h⟩⟩
  refine ⟨?_, by unfold putO; rw [if_pos hck, if_pos hmx, if_neg hnr]⟩
  have hp := part_way (x := x) (tree_at ht) hl.1 hl.2 (rmV s a).1.toNat 0 (by omega)
  rw [List.drop_zero] at hp
  have hp' : partF l.reverse 1 = tallT s (rmV s a).1.toNat a x.1 := hp
  unfold putS insO
  rw [if_neg (fun h => h hck), if_neg (fun h => h hci), hp', growO_is hx hmx ht ha hr hE hl]
  unfold tallO
  by_cases h5 : (rmV s a).1 = 5
  · have e5 : (rmV s a).1.toNat = 5 := by omega
    by_cases hT : tallT s 5 a x.1 = true
    · rw [if_pos ⟨h5, by rw [e5]; exact hT⟩, if_pos (by rw [h5, hT]; rfl)]
    · refine (if_neg (fun h => hT (by rw [← e5]; exact h.2))).trans (Eq.trans ?_ (if_neg (fun h => hT (by simpa [h5] using h))).symm)
      exact put_tail hx ht ha hr hE rfl
  · refine (if_neg (fun h => h5 h.1)).trans (Eq.trans ?_ (if_neg (fun h => h5 (by simp at h; exact h.1))).symm)
    exact put_tail hx ht ha hr hE rfl
end Go.Proofs.YtogieepfimpdmaaGreat

/-
  The chapter's tree of layer 10, plain. Conditions: those that each lemma states.
-/
namespace Go.Proofs.YtogieepfimpdmaaGreat
open Go.RowKit

def keyN (x : Int) : Ky := (2, 0, x)
end Go.Proofs.YtogieepfimpdmaaGreat

/-
  The trees that the laws of layer 12 grow from nothing, plain. Conditions: those that each lemma states.
-/
namespace Go.Proofs.YtogieepfimpdmaaGreat
open Go.RowKit

theorem ct_none : ∀ (l : List It) (t : List UInt8), (∀ y ∈ l, y.2.1 = 0) → ctE t l = 0 ∧ ctV t l = t
  | [], _, _ => ⟨rfl, rfl⟩
  | x :: l, t, h => by
    obtain ⟨h1, h2⟩ := ct_none l t fun y hy => h y (List.mem_cons_of_mem _ hy)
    have h0 := h x List.mem_cons_self
    exact ⟨by rw [ctE, if_pos h0]; exact h1, by rw [ctV, if_pos h0]; exact h2⟩
theorem mk_plain {s : Rm} {n : Nd} (hm : mayR s = true) (hn : mayN n = true) (hc : ctE s.2.1 n.2 = 0) {k : Nat} (hf : (freeL s)[0]? = some k) (hw : s.1.2.length < 4096) : mkE s n = 0 ∧ mkN s n = k ∧ mkV s n = (wrD s.1 k (blkN n), (ctV s.2.1 n.2).set k 1, s.2.2) ∧ mayR (mkV s n) = true ∧ k < 256 := by
  have hfs := ctS_free hm hn hc
  have hms := ctS_may hm hn hc
  have hT : tkE (ctS s n) (blkN n) = 0 := tk_yes hms (blkN_length hn) (fun e => by rw [hfs] at e; rw [e] at hf; cases hf) hw
  have hK : tkK (ctS s n) = k := by rw [tkK, hfs, hf]; rfl
  obtain ⟨_, _, _, _, _, _, _, _, hN, _⟩ := tk_ok hT
  rcases mk_ways hm hn with ⟨hc', _⟩ | ⟨_, e, e2, _⟩
  · exact absurd hc hc'
  have hE := e.trans hT
  have hNk : mkN s n = k := by rw [e2, hN, hK]
  obtain ⟨k', e1, _, h256, _, _, _, hV, hmT, _⟩ := mk_counts hE
  have hk : k' = k := by omega
  subst hk
  exact ⟨hE, hNk, hV, hmT, h256⟩
theorem free_of (d : Dk) (T Z : List UInt8) : freeL (d, T, Z) = freeL (zeroD, T, Z) := by
  unfold freeL freeK freeAt
  rfl

/-- A store of one leaf alone, whose items refer to nothing. -/
structure Lf (s : Rm) (a : Nat) (L : List It) (m : Nat) : Prop where
  may : mayR s = true
  now : s.2.1 = (zeros 256).set a 1
  last : s.2.2 = zeros 256
  seen : seenD s.1 a = blkN (0, L)
  mayN : mayN (0, L) = true
  inN : InN (0, L)
  at_ : a = 8 ∨ a = 9
  few : s.1.2.length ≤ m
  refs : ∀ y ∈ L, y.2.1 = 0
theorem Lf.cnt {s : Rm} {a : Nat} {L : List It} {m : Nat} (h : Lf s a L m) : s.2.1[a]?.getD 0 = 1 := by
  rw [h.now]
  rcases h.at_ with rfl | rfl <;> decide +kernel
theorem Lf.as {s : Rm} {a : Nat} {L : List It} {m : Nat} (h : Lf s a L m) : asE s (a : Int) = 0 :=
  as_yes h.may (by rcases h.at_ with rfl | rfl <;> decide) (by rcases h.at_ with rfl | rfl <;> decide) (by rw [h.cnt]; decide)
theorem Lf.rm {s : Rm} {a : Nat} {L : List It} {m : Nat} (h : Lf s a L m) : rmE s (a : Int) = 0 ∧ rmV s (a : Int) = (0, L) := rm_yes h.as h.seen h.mayN h.inN
theorem Lf.tree {s : Rm} {a : Nat} {L : List It} {m : Nat} (h : Lf s a L m) : treeO s (a : Int) = true ∧ allO s (a : Int) = L ∧ ckE s (a : Int) = 0 ∧ ckH s (a : Int) = 1 := by
  obtain ⟨r1, r2⟩ := h.rm
  have ht : treeO s (a : Int) = true := by
    unfold treeO
    rw [r1, r2]
    show (true && leafO s L) = true
    unfold leafO
    rw [Bool.true_and, List.all_eq_true]
    intro y hy
    simp [h.refs y hy]
  refine ⟨ht, ?_, (ck_ok h.as ht).1, by rw [(ck_ok h.as ht).2, r2]; rfl⟩
  unfold allO
  rw [r2]
  show itsT s 0 a = L
  unfold itsT
  rw [r2]
theorem cntR_none : ∀ (l : List It) (k : Nat), (∀ y ∈ l, y.2.1 = 0) → cntR l k = 0
  | [], _, _ => rfl
  | x :: l, k, h => by
    show (if x.2.1 = (k : Int) then (if x.2.1 = 0 then 0 else 1) else 0) + cntR l k = 0
    rw [cntR_none l k fun y hy => h y (List.mem_cons_of_mem _ hy), if_pos (h x List.mem_cons_self)]
    split <;> rfl
theorem Lf.enf {s : Rm} {a : Nat} {L : List It} {m : Nat} (h : Lf s a L m) : Enf s.1 s.2.1 (fun i => if i = a then 1 else 0) [(a : Int)] := by
  obtain ⟨r1, r2⟩ := h.rm
  have hnd : ndD s.1 (a : Int) = (0, L) := (ndD_rm r1).trans r2
  obtain ⟨q1, _⟩ := read_blkN h.mayN h.inN
  have ha : a = 8 ∨ a = 9 := h.at_
  refine ⟨by simp, fun n hn => ?_, fun n hn h0 => ?_, fun n hn => ?_, fun k => ?_⟩
  · rw [List.mem_singleton.1 hn]
    refine ⟨by omega, by omega, ?_, ?_⟩
    · rw [show ((a : Int)).toNat = a by omega, h.seen, q1]
    · rw [show ((a : Int)).toNat = a by omega, cnt_nz, h.cnt]
      decide
  · rw [List.mem_singleton.1 hn, hnd] at h0
    exact absurd rfl h0
  · rw [List.mem_singleton.1 hn, hnd]
    exact fun y hy => .inl (h.refs y hy)
  · show (if k = a then 1 else 0) + (cntR (ndD s.1 (a : Int)).2 k + 0) ≤ _
    rw [hnd, cntR_none L k h.refs]
    by_cases e : k = a
    · subst e
      unfold cnt8
      rw [if_pos rfl, h.cnt]
      decide
    · rw [if_neg e]
      omega
theorem lf_leave {d : Dk} {t : List UInt8} {a : Nat} {L : List It} (hs : seenD d a = blkN (0, L)) (hn : mayN (0, L) = true) (hi : InN (0, L)) (h1 : t[a]?.getD 0 = 1) (hr : ∀ y ∈ L, y.2.1 = 0) : lfO d t a = some (t.set a 0) := by
  have he : ∀ (f : List UInt8 → Nat → Option (List UInt8)) (l : List It) (t : List UInt8), (∀ y ∈ l, y.2.1 = 0) → eachO f t l = some t := fun f l => by
    induction l with
    | nil => intro t _; rfl
    | cons x l ih =>
      intro t h
      rw [eachO, if_pos (h x List.mem_cons_self)]
      exact ih t fun y hy => h y (List.mem_cons_of_mem _ hy)
  obtain ⟨r1, r2⟩ := read_blkN hn hi
  unfold lfO
  rw [dnO_yes (by rw [h1]; decide), h1, hs, r1, r2]
  show (if 1 < (1 : UInt8).toNat then some (t.set a (1 - 1)) else if (0 : Int) = 0 then eachO (lvF d 0) (t.set a (1 - 1)) L else none) = _
  rw [if_neg (by decide), if_pos rfl, he _ _ _ hr]
  rfl
set_option maxRecDepth 100000 in
/-- One more in it: the other block. -/
theorem Lf.put {s : Rm} {a : Nat} {L : List It} {m : Nat} (h : Lf s a L m) (hm : m < 100) {x : It} (hx : InI x) (hx0 : x.2.1 = 0) (hn : Go.Proofs.YtogieepfimpdmaaGreat.mayN (0, putL L x) = true) : ∃ s', insO s (a : Int) x = (0, s', ((17 - a : Nat) : Int)) ∧ Lf s' (17 - a) (putL L x) (m + 1) := by
  obtain ⟨r1, r2⟩ := h.rm
  have ha : a = 8 ∨ a = 9 := h.at_
  have hl5 : (putL L x).length ≤ 5 := (mayN_of hn).1.2.2.1
  have hrf : ∀ y ∈ putL L x, y.2.1 = 0 := fun y hy => by
    rcases putL_in.1 hy with rfl | ⟨hy, _⟩
    · exact hx0
    · exact h.refs y hy
  have hin : InN ((0 : Int), putL L x) := ⟨⟨by simp, by simp⟩, fun y hy => by
    rcases putL_in.1 hy with rfl | ⟨hy, _⟩
    · exact hx
    · exact h.inN.it y hy⟩
  obtain ⟨c1, c2⟩ := ct_none (putL L x) s.2.1 hrf
  have hfr : (freeL s)[0]? = some (17 - a) := by
    have e : s = (s.1, (zeros 256).set a 1, zeros 256) := by rw [← h.now, ← h.last]
    rw [e, free_of]
    rcases ha with rfl | rfl <;> decide +kernel
  obtain ⟨m1, m2, m3, m4, _⟩ := mk_plain h.may hn c1 hfr (by have := h.few; omega)
  have hb : builtO s 0 (putL L x) = (0, mkV s (0, putL L x), [upI (putL L x) ((17 - a : Nat) : Int)]) := by
    unfold builtO
    rw [if_pos hl5, if_pos m1, m2]
  have eL : insL (rmV s (a : Int)).2 (placeN (rmV s (a : Int)) x.1) (if thereN (rmV s (a : Int)) x.1 = true then 1 else 0) [x] = putL (rmV s (a : Int)).2 x := leaf_put (by rw [r2]; exact h.mayN) x
  have hg : grownO x 0 s (a : Int) = (0, mkV s (0, putL L x), [upI (putL L x) ((17 - a : Nat) : Int)]) := by
    unfold grownO
    rw [eL, r2, hb, if_pos rfl, if_pos hx0]
  have hne : a ≠ 17 - a := by omega
  have hlf : lfO (mkV s (0, putL L x)).1 (mkV s (0, putL L x)).2.1 a = some ((mkV s (0, putL L x)).2.1.set a 0) := by
    refine lf_leave (L := L) ?_ h.mayN h.inN ?_ h.refs
    · rw [m3]
      exact (seenD_write_ne hne).trans h.seen
    · rw [m3]
      show (List.set (ctV s.2.1 (putL L x)) (17 - a) 1)[a]?.getD 0 = 1
      rw [c2, h.now]
      rcases ha with rfl | rfl <;> decide +kernel
  have hT : (mkV s (0, putL L x)).2.1.set a 0 = (zeros 256).set (17 - a) 1 := by
    rw [m3]
    show (List.set (ctV s.2.1 (putL L x)) (17 - a) 1).set a 0 = _
    rw [c2, h.now]
    rcases ha with rfl | rfl <;> decide +kernel
  have hZ : (mkV s (0, putL L x)).2.2 = zeros 256 := by rw [m3]; exact h.last
  refine ⟨((mkV s (0, putL L x)).1, (zeros 256).set (17 - a) 1, zeros 256), ?_, ⟨?_, rfl, rfl, ?_, hn, hin, by omega, ?_, hrf⟩⟩
  · unfold insO
    have ht : tallO s (a : Int) x.1 = false := by unfold tallO; rw [r2]; rfl
    have e0 : (rmV s (a : Int)).1.toNat = 0 := by rw [r2]; rfl
    have hro : rootO (mkV s (0, putL L x)) (rmV s (a : Int)).1 [upI (putL L x) ((17 - a : Nat) : Int)] = (0, mkV s (0, putL L x), [upI (putL L x) ((17 - a : Nat) : Int)]) := by
      unfold rootO
      rw [if_neg (by simp)]
    rw [ht, e0, hg, if_neg (by decide), if_pos rfl]
    show (if (rootO (mkV s (0, putL L x)) (rmV s (a : Int)).1 [upI (putL L x) ((17 - a : Nat) : Int)]).1 = 0 then _ else _) = _
    rw [hro, if_pos rfl]
    dsimp only
    rw [show ((a : Int)).toNat = a by omega, hlf]
    dsimp only
    rw [hT, hZ]
    rfl
  · exact mayR_mk (mayR_of m4).1 (show mayT ((zeros 256).set (17 - a) 1) = true by rcases ha with rfl | rfl <;> decide +kernel) may_zeros
  · show seenD (mkV s (0, putL L x)).1 (17 - a) = _
    rw [m3]
    exact seenD_write
  · show (mkV s (0, putL L x)).1.2.length ≤ m + 1
    rw [m3]
    show (wrD s.1 (17 - a) (blkN (0, putL L x))).2.length ≤ m + 1
    rw [wrD_len]
    have := h.few
    omega

def kx (n : Nat) : It := (keyN n, 0, [])
def Ls : Nat → List It
  | 0 => []
  | n + 1 => Ls n ++ [kx (n + 1)]
theorem Ls_put : ∀ n : Nat, n ≤ 5 → putL (Ls n) (kx (n + 1)) = Ls (n + 1)
  | 0, _ | 1, _ | 2, _ | 3, _ | 4, _ | 5, _ => by decide +kernel
  | n + 6, h => absurd h (by omega)
theorem Ls_may : ∀ n : Nat, n ≤ 5 → mayN (0, Ls n) = true
  | 0, _ | 1, _ | 2, _ | 3, _ | 4, _ | 5, _ => by decide +kernel
  | n + 6, h => absurd h (by omega)
theorem Ls_in (n : Nat) (hn : n ≤ 6) : ∀ x ∈ Ls n, InI x ∧ x.2.1 = 0 := by
  induction n with
  | zero => intro x hx; cases hx
  | succ n ih =>
    intro x hx
    rcases List.mem_append.1 hx with hx | hx
    · exact ih (by omega) x hx
    · rw [List.mem_singleton.1 hx]
      exact ⟨⟨⟨⟨by show (0 : Int) ≤ 0; omega, by show (0 : Int) < 4294967296; omega⟩, by show (0 : Int) ≤ ((n + 1 : Nat) : Int); omega, by show ((n + 1 : Nat) : Int) < 4294967296; omega⟩, by show (-9223372036854775808 : Int) ≤ 0; omega, by show (0 : Int) ≤ 9223372036854775807; omega⟩, rfl⟩
/-- What is grown from nothing. -/
noncomputable def gS : Nat → Rm × Int
  | 0 => (mkV newR zeroN, 8)
  | n + 1 => ((insO (gS n).1 (gS n).2 (kx (n + 1))).2.1, (insO (gS n).1 (gS n).2 (kx (n + 1))).2.2)
def gA (n : Nat) : Nat := if n % 2 = 0 then 8 else 9
set_option maxRecDepth 100000 in
theorem lf_new : mkE newR zeroN = 0 ∧ mkN newR zeroN = 8 ∧ Lf (mkV newR zeroN) 8 [] 1 := by
  have hn : mayN zeroN = true := by decide +kernel
  obtain ⟨m1, m2, m3, m4, _⟩ := mk_plain may_new hn (by generalize newR.2.1 = z; rfl) (k := 8) (by rw [new_free.2]; rfl) (by rw [newR, zero_len2]; omega)
  refine ⟨m1, m2, m4, ?_, ?_, ?_, hn, ⟨⟨by decide, by decide⟩, fun x hx => by cases hx⟩, .inl rfl, ?_, fun y hy => by cases hy⟩
  · rw [m3]
    have e : ctV newR.2.1 zeroN.2 = zeros 256 := by
      have e0 : newR.2.1 = zeros 256 := rfl
      rw [e0]
      generalize zeros 256 = z
      rfl
    show (ctV newR.2.1 zeroN.2).set 8 1 = _
    rw [e]
  · rw [m3]
    unfold newR
    rfl
  · rw [m3]; exact seenD_write
  · rw [m3]
    show (wrD newR.1 8 (blkN zeroN)).2.length ≤ 1
    rw [wrD_len]
    exact Nat.le_refl _
theorem gS_lf : ∀ n, n ≤ 5 → Lf (gS n).1 (gA n) (Ls n) (n + 1) ∧ (gS n).2 = (gA n : Int)
  | 0, _ => by
    have e0 : gS 0 = (mkV newR zeroN, 8) := by rw [gS]
    have e1 : gA 0 = 8 := rfl
    have e2 : Ls 0 = [] := rfl
    rw [e0, e1, e2]
    dsimp only
    refine ⟨?_, by decide⟩
    rw [Nat.zero_add]
    exact lf_new.2.2
  | n + 1, h => by
    obtain ⟨h1, h2⟩ := gS_lf n (by omega)
    obtain ⟨hi, hz⟩ := Ls_in (n + 1) (by omega) (kx (n + 1)) (List.mem_append_right _ (List.mem_singleton.2 rfl))
    obtain ⟨s', e, h3⟩ := h1.put (by omega) hi hz (by rw [Ls_put n (by omega)]; exact Ls_may (n + 1) h)
    rw [Ls_put n (by omega)] at h3
    have ea : 17 - gA n = gA (n + 1) := by
      unfold gA
      by_cases he : n % 2 = 0
      · rw [if_pos he, if_neg (by omega)]
      · rw [if_neg he, if_pos (by omega)]
    rw [ea] at h3 e
    have e1 : gS (n + 1) = (s', (gA (n + 1) : Int)) := by
      show ((insO (gS n).1 (gS n).2 (kx (n + 1))).2.1, (insO (gS n).1 (gS n).2 (kx (n + 1))).2.2) = _
      rw [h2, e]
    rw [e1]
    exact ⟨h3, rfl⟩
theorem gS_ins (n : Nat) (h : n < 5) : insO (gS n).1 (gS n).2 (kx (n + 1)) = (0, (gS (n + 1)).1, (gS (n + 1)).2) := by
  obtain ⟨h1, h2⟩ := gS_lf n (by omega)
  obtain ⟨hi, hz⟩ := Ls_in (n + 1) (by omega) (kx (n + 1)) (List.mem_append_right _ (List.mem_singleton.2 rfl))
  obtain ⟨s', e, _⟩ := h1.put (by omega) hi hz (by rw [Ls_put n (by omega)]; exact Ls_may (n + 1) (by omega))
  show _ = (0, (insO (gS n).1 (gS n).2 (kx (n + 1))).2.1, (insO (gS n).1 (gS n).2 (kx (n + 1))).2.2)
  rw [h2, e]

theorem gS_succ (n : Nat) : gS (n + 1) = ((insO (gS n).1 (gS n).2 (kx (n + 1))).2.1, (insO (gS n).1 (gS n).2 (kx (n + 1))).2.2) := by rw [gS]
attribute [irreducible] gS

def upS : List It := [(keyN 1, 8, []), (keyN 4, 10, [])]
set_option maxRecDepth 100000 in
/-- The sixth: two leaves, and a root. -/
theorem six_made : ∃ T, insO (gS 5).1 (gS 5).2 (kx 6) = (0, T, 11) ∧ mayR T = true ∧ rmE T 11 = 0 ∧ rmV T 11 = (1, upS) ∧ rmE T 8 = 0 ∧ rmV T 8 = (0, (Ls 6).take 3) ∧ rmE T 10 = 0 ∧ rmV T 10 = (0, (Ls 6).drop 3) := by
  obtain ⟨h, h2⟩ := gS_lf 5 (by omega)
  rw [h2]
  generalize (gS 5).1 = s at h
  obtain ⟨r1, r2⟩ := h.rm
  have e9 : gA 5 = 9 := rfl
  rw [e9] at h r1 r2 ⊢
  have e9i : ((9 : Nat) : Int) = 9 := rfl
  rw [e9i] at r1 r2 ⊢
  have hrf : ∀ y ∈ Ls 6, y.2.1 = 0 := fun y hy => (Ls_in 6 (by omega) y hy).2
  have hin3 : InN ((0 : Int), (Ls 6).take 3) := ⟨⟨by simp, by simp⟩, fun y hy => (Ls_in 6 (by omega) y (List.mem_of_mem_take hy)).1⟩
  have hin4 : InN ((0 : Int), (Ls 6).drop 3) := ⟨⟨by simp, by simp⟩, fun y hy => (Ls_in 6 (by omega) y (List.mem_of_mem_drop hy)).1⟩
  have hn3 : mayN (0, (Ls 6).take 3) = true := by decide +kernel
  have hn4 : mayN (0, (Ls 6).drop 3) = true := by decide +kernel
  have hnu : mayN (1, upS) = true := by decide +kernel
  have hinu : InN ((1 : Int), upS) := ⟨⟨by simp, by simp⟩, fun y hy => by
    simp only [upS, List.mem_cons, List.not_mem_nil, or_false] at hy
    rcases hy with rfl | rfl <;> exact ⟨⟨⟨by decide, by decide⟩, by decide, by decide⟩, by decide, by decide⟩⟩
  obtain ⟨a1, a2⟩ := ct_none ((Ls 6).take 3) s.2.1 fun y hy => hrf y (List.mem_of_mem_take hy)
  have hs : s = (s.1, (zeros 256).set 9 1, zeros 256) := by rw [← h.now, ← h.last]
  obtain ⟨m1, m2, m3, m4, _⟩ := mk_plain h.may hn3 a1 (k := 8) (by rw [hs, free_of]; decide +kernel) (by have := h.few; omega)
  obtain ⟨U, hU⟩ : ∃ U, mkV s (0, (Ls 6).take 3) = U := ⟨_, rfl⟩
  rw [hU] at m3 m4
  have hU2 : U = (wrD s.1 8 (blkN (0, (Ls 6).take 3)), ((zeros 256).set 9 1).set 8 1, zeros 256) := by
    rw [m3]
    show (_, (ctV s.2.1 ((Ls 6).take 3)).set 8 1, s.2.2) = _
    rw [a2, h.now, h.last]
  obtain ⟨b1, b2⟩ := ct_none ((Ls 6).drop 3) U.2.1 fun y hy => hrf y (List.mem_of_mem_drop hy)
  obtain ⟨n1, n2, n3, n4, _⟩ := mk_plain m4 hn4 b1 (k := 10) (by rw [hU2, free_of]; decide +kernel) (by rw [hU2]; show (wrD s.1 8 _).2.length < 4096; rw [wrD_len]; have := h.few; omega)
  obtain ⟨V, hV⟩ : ∃ V, mkV U (0, (Ls 6).drop 3) = V := ⟨_, rfl⟩
  rw [hV] at n3 n4
  have hV2 : V = (wrD (wrD s.1 8 (blkN (0, (Ls 6).take 3))) 10 (blkN (0, (Ls 6).drop 3)), (((zeros 256).set 9 1).set 8 1).set 10 1, zeros 256) := by
    rw [n3]
    show (_, (ctV U.2.1 ((Ls 6).drop 3)).set 10 1, U.2.2) = _
    rw [b2, hU2]
  have hVn : V.2.1 = (((zeros 256).set 9 1).set 8 1).set 10 1 := by rw [hV2]
  have c1 : ctE V.2.1 upS = 0 := by rw [hVn]; decide +kernel
  obtain ⟨o1, o2, o3, o4, _⟩ := mk_plain n4 hnu c1 (k := 11) (by rw [hV2, free_of]; decide +kernel) (by rw [hV2]; show (wrD (wrD s.1 8 _) 10 _).2.length < 4096; rw [wrD_len, wrD_len]; have := h.few; omega)
  obtain ⟨W, hW⟩ : ∃ W, mkV V (1, upS) = W := ⟨_, rfl⟩
  rw [hW] at o3 o4
  have hW2 : W = (wrD (wrD (wrD s.1 8 (blkN (0, (Ls 6).take 3))) 10 (blkN (0, (Ls 6).drop 3))) 11 (blkN (1, upS)), ((((((zeros 256).set 9 1).set 8 1).set 10 1).set 8 2).set 10 2).set 11 1, zeros 256) := by
    rw [o3]
    show (_, (ctV V.2.1 upS).set 11 1, V.2.2) = _
    rw [hV2]
    have : ctV ((((zeros 256).set 9 1).set 8 1).set 10 1) upS = (((((zeros 256).set 9 1).set 8 1).set 10 1).set 8 2).set 10 2 := by decide +kernel
    show (_, (ctV ((((zeros 256).set 9 1).set 8 1).set 10 1) upS).set 11 1, _) = _
    rw [this]
  have hb : builtO s 0 (Ls 6) = (0, V, upS) := by
    unfold builtO
    rw [if_neg (by decide), if_pos m1, hU, if_pos n1, hV, m2, n2]
    rfl
  have hb2 : builtO V ((0 : Int) + 1) upS = (0, W, [upI upS 11]) := by
    unfold builtO
    rw [if_pos (by decide)]
    show (if mkE V (1, upS) = 0 then (0, mkV V (1, upS), [upI upS (mkN V (1, upS))]) else (mkE V (1, upS), emptyR, [])) = _
    rw [if_pos o1, hW, o2]
    rfl
  have eL : insL (rmV s 9).2 (placeN (rmV s 9) (kx 6).1) (if thereN (rmV s 9) (kx 6).1 = true then 1 else 0) [kx 6] = putL (rmV s 9).2 (kx 6) := leaf_put (by
    have := h.mayN
    rw [show rmV s 9 = (0, Ls 5) from r2]
    exact this) _
  have hg : grownO (kx 6) 0 s 9 = (0, V, upS) := by
    unfold grownO
    rw [eL, show rmV s 9 = (0, Ls 5) from r2]
    show (if (builtO s 0 (putL (Ls 5) (kx 6))).1 = 0 then (0, (if (kx 6).2.1 = 0 then (builtO s 0 (putL (Ls 5) (kx 6))).2.1 else freR (builtO s 0 (putL (Ls 5) (kx 6))).2.1 (kx 6).2.1), (builtO s 0 (putL (Ls 5) (kx 6))).2.2) else ((builtO s 0 (putL (Ls 5) (kx 6))).1, emptyR, [])) = _
    rw [Ls_put 5 (by omega), hb, if_pos rfl, if_pos (show (kx 6).2.1 = 0 from rfl)]
  obtain ⟨F, hF⟩ : ∃ F, freL W upS = F := ⟨_, rfl⟩
  have hF2 : F = (wrD (wrD (wrD s.1 8 (blkN (0, (Ls 6).take 3))) 10 (blkN (0, (Ls 6).drop 3))) 11 (blkN (1, upS)), (((((((zeros 256).set 9 1).set 8 1).set 10 1).set 8 2).set 10 2).set 11 1 |>.set 8 1).set 10 1, zeros 256) := by
    rw [← hF, hW2]
    have e : freL (wrD (wrD (wrD s.1 8 (blkN (0, (Ls 6).take 3))) 10 (blkN (0, (Ls 6).drop 3))) 11 (blkN (1, upS)), ((((((zeros 256).set 9 1).set 8 1).set 10 1).set 8 2).set 10 2).set 11 1, zeros 256) upS = (wrD (wrD (wrD s.1 8 (blkN (0, (Ls 6).take 3))) 10 (blkN (0, (Ls 6).drop 3))) 11 (blkN (1, upS)), (freL (zeroD, ((((((zeros 256).set 9 1).set 8 1).set 10 1).set 8 2).set 10 2).set 11 1, zeros 256) upS).2.1, zeros 256) := rfl
    rw [e]
    have : (freL (zeroD, ((((((zeros 256).set 9 1).set 8 1).set 10 1).set 8 2).set 10 2).set 11 1, zeros 256) upS).2.1 = (((((((zeros 256).set 9 1).set 8 1).set 10 1).set 8 2).set 10 2).set 11 1 |>.set 8 1).set 10 1 := by decide +kernel
    rw [this]
  have hFn : F.2.1 = ((((((((zeros 256).set 9 1).set 8 1).set 10 1).set 8 2).set 10 2).set 11 1).set 8 1).set 10 1 := by rw [hF2]
  have hFz : F.2.2 = zeros 256 := by rw [hF2]
  have hro : rootO V 0 upS = (0, F, [upI upS 11]) := by
    unfold rootO
    rw [if_pos (by decide), hb2, if_pos rfl]
    show (0, freL W upS, _) = _
    rw [hF]
  have hlf : lfO F.1 F.2.1 9 = some (F.2.1.set 9 0) := by
    refine lf_leave (L := Ls 5) ?_ h.mayN h.inN ?_ h.refs
    · rw [hF2]
      show seenD (wrD (wrD (wrD s.1 8 _) 10 _) 11 _) 9 = _
      rw [seenD_write_ne (by decide), seenD_write_ne (by decide), seenD_write_ne (by decide)]
      exact h.seen
    · rw [hFn]
      decide +kernel
  have hm : mayR (F.1, F.2.1.set 9 0, F.2.2) = true := mayR_mk (by rw [hF2, show (wrD (wrD (wrD s.1 8 (blkN (0, (Ls 6).take 3))) 10 (blkN (0, (Ls 6).drop 3))) 11 (blkN (1, upS))) = W.1 by rw [hW2]]; exact (mayR_of o4).1) (show mayT (F.2.1.set 9 0) = true by rw [hFn]; decide +kernel) (show mayT F.2.2 = true by rw [hFz]; exact may_zeros)
  have hseen : ∀ k n, seenD F.1 k = blkN n → mayN n = true → InN n → 8 ≤ k → k < 256 → (F.2.1.set 9 0)[k]?.getD 0 ≠ 0 → rmE (F.1, F.2.1.set 9 0, F.2.2) (k : Int) = 0 ∧ rmV (F.1, F.2.1.set 9 0, F.2.2) (k : Int) = n := fun k n h1 h2 h3 h8 h256 h4 => rm_yes (as_yes hm h8 h256 h4) h1 h2 h3
  have s11 : seenD F.1 11 = blkN (1, upS) := by rw [hF2]; exact seenD_write
  have s10 : seenD F.1 10 = blkN (0, (Ls 6).drop 3) := by rw [hF2]; show seenD (wrD (wrD (wrD s.1 8 _) 10 _) 11 _) 10 = _; rw [seenD_write_ne (by decide)]; exact seenD_write
  have s8 : seenD F.1 8 = blkN (0, (Ls 6).take 3) := by rw [hF2]; show seenD (wrD (wrD (wrD s.1 8 _) 10 _) 11 _) 8 = _; rw [seenD_write_ne (by decide), seenD_write_ne (by decide)]; exact seenD_write
  obtain ⟨t1, t2⟩ := hseen 11 _ s11 hnu hinu (by omega) (by omega) (by rw [hFn]; decide +kernel)
  obtain ⟨t3, t4⟩ := hseen 10 _ s10 hn4 hin4 (by omega) (by omega) (by rw [hFn]; decide +kernel)
  obtain ⟨t5, t6⟩ := hseen 8 _ s8 hn3 hin3 (by omega) (by omega) (by rw [hFn]; decide +kernel)
  refine ⟨(F.1, F.2.1.set 9 0, F.2.2), ?_, hm, t1, t2, t5, t6, t3, t4⟩
  unfold insO
  have ht : tallO s 9 (kx 6).1 = false := by unfold tallO; rw [show rmV s 9 = (0, Ls 5) from r2]; rfl
  have e0 : (rmV s 9).1 = 0 := by rw [show rmV s 9 = (0, Ls 5) from r2]
  show (if tallO s 9 (kx 6).1 = true then _ else _) = _
  rw [ht]
  show (if (grownO (kx 6) (rmV s 9).1.toNat s 9).1 = 0 then _ else _) = _
  rw [e0, show ((0 : Int)).toNat = 0 from rfl, hg, if_pos rfl]
  try dsimp only
  rw [hro, if_pos rfl]
  try dsimp only
  rw [show ((9 : Int)).toNat = 9 from rfl, hlf]
  rfl
theorem six_tree {T : Rm} (r1 : rmE T 11 = 0) (r2 : rmV T 11 = (1, upS)) (r3 : rmE T 8 = 0) (r4 : rmV T 8 = (0, (Ls 6).take 3)) (r5 : rmE T 10 = 0) (r6 : rmV T 10 = (0, (Ls 6).drop 3)) : ckE T 11 = 0 ∧ ckH T 11 = 2 := by
  have h1 : leafO T ((Ls 6).take 3) = true := by
    unfold leafO
    rw [List.all_eq_true]
    intro y hy
    simp [(Ls_in 6 (by omega) y (List.mem_of_mem_take hy)).2]
  have h2 : leafO T ((Ls 6).drop 3) = true := by
    unfold leafO
    rw [List.all_eq_true]
    intro y hy
    simp [(Ls_in 6 (by omega) y (List.mem_of_mem_drop hy)).2]
  have ht : treeO T 11 = true := by
    unfold treeO
    rw [r1, r2]
    show (true && (rightO T 0 8 (keyN 1) (keyN 4) true && rightO T 0 10 (keyN 4) keyZ false)) = true
    unfold rightO
    rw [r3, r4, r5, r6, h1, h2]
    decide
  have ha : asE T 11 = 0 := (rm_may r1).2
  exact ⟨(ck_ok ha ht).1, by rw [(ck_ok ha ht).2, r2]; rfl⟩
end Go.Proofs.YtogieepfimpdmaaGreat

/-
  Package put: New. Conditions: those that each lemma states.
-/
namespace Go.Proofs.YtogieepfimpdmaaGreat
open Go.RowKit

set_option maxRecDepth 100000 in
set_option maxHeartbeats 4000000 in
theorem putNew_any (qa qb qc qd : Option Addr × Nat × Nat) (s : Rm) (w : World) (h : Sto (Old w) w (.agg #[.slice qa.1 qa.2.1 qa.2.2, .slice qb.1 qb.2.1 qb.2.2, .slice qc.1 qc.2.1 qc.2.2, .slice qd.1 qd.2.1 qd.2.2]) s) :
    Calls Tryz.prog 21 #[.agg #[.slice qa.1 qa.2.1 qa.2.2, .slice qb.1 qb.2.1 qb.2.2, .slice qc.1 qc.2.1 qc.2.2, .slice qd.1 qd.2.1 qd.2.2]] w fun e W' => ∃ qa qb qc qd : Option Addr × Nat × Nat, e = .returned (.tuple #[.agg #[.slice qa.1 qa.2.1 qa.2.2, .slice qb.1 qb.2.1 qb.2.2, .slice qc.1 qc.2.1 qc.2.2, .slice qd.1 qd.2.1 qd.2.2], .int .i64 (mkN s zeroN), .int .i64 (mkE s zeroN)]) ∧
      Sto (New w.heap.size W') W' (.agg #[.slice qa.1 qa.2.1 qa.2.2, .slice qb.1 qb.2.1 qb.2.2, .slice qc.1 qc.2.1 qc.2.2, .slice qd.1 qd.2.1 qd.2.2]) (mkV s zeroN) ∧ Below w.heap.size w W' := by
  obtain ⟨w1, hw1, b1, hs1, hB1⟩ := box_4 w (.slice qa.1 qa.2.1 qa.2.2) (.slice qb.1 qb.2.1 qb.2.2) (.slice qc.1 qc.2.1 qc.2.2) (.slice qd.1 qd.2.1 qd.2.2) 29
  obtain ⟨w2, hw2, b2, hs2, hB2⟩ := box_4 w1 (.slice none 0 0) (.slice none 0 0) (.slice none 0 0) (.slice none 0 0) 29
  have hB12 := hB1.trans (hB2.mono hB1.size)
  have B2 := Lib.hid hB12
  have HM := Lib.hid (makeV_four (.agg #[.slice qa.1 qa.2.1 qa.2.2, .slice qb.1 qb.2.1 qb.2.2, .slice qc.1 qc.2.1 qc.2.2, .slice qd.1 qd.2.1 qd.2.2]) (.agg #[.int .i64 0, .slice none 0 0]) s zeroN w2 (h.below hB12) (NodR.zero w.heap.size w2).nod.drop)
  have SZ := Lib.hid (show w1.heap.size = w.heap.size + 1 ∧ w2.heap.size = w.heap.size + 2 from ⟨hs1, by omega⟩)
  have G2 := Lib.hid b2
  obtain ⟨k0, k1, k2, k3, _⟩ := four_cells ((hB2.block w.heap.size (by omega)).trans b1)
  replace hs1 := Lib.hid hs1
  replace hs2 := Lib.hid hs2
  obtain ⟨mn, hmn⟩ : ∃ q, mkN s zeroN = q := ⟨_, rfl⟩
  obtain ⟨me, hme⟩ : ∃ q, mkE s zeroN = q := ⟨_, rfl⟩
  obtain ⟨mv, hmv⟩ : ∃ q, mkV s zeroN = q := ⟨_, rfl⟩
  rw [hmn, hme, hmv] at HM ⊢
  clear h hB1 hB2 hB12 b1 b2
  go_enter Tryz.func21, Tryz.ntmps21
  go_upto_region 1 with fail
  clear hw1 hw2
  go_wp2_with fail
  with_reducible refine (HM.out).mono ?_
  rintro e w3 ⟨ra, rb, rc, rd, rfl, hS3, hb3⟩
  have hc3 := (hb3.block w1.heap.size (by have := SZ.out; omega)).trans G2.out
  obtain ⟨u0, u1, u2, u3, uf, _⟩ := four_cells hc3
  obtain ⟨W9, hW9, g9, gr9, gs9⟩ := put_four (a' := .slice ra.1 ra.2.1 ra.2.2) (b' := .slice rb.1 rb.2.1 rb.2.2) (c' := .slice rc.1 rc.2.1 rc.2.2) (d' := .slice rd.1 rd.2.1 rd.2.2) hc3
  obtain ⟨y0, y1, y2, y3, _, _⟩ := four_cells g9
  have hfin := Lib.hid (show Sto (New w.heap.size W9) W9 (.agg #[.slice ra.1 ra.2.1 ra.2.2, .slice rb.1 rb.2.1 rb.2.2, .slice rc.1 rc.2.1 rc.2.2, .slice rd.1 rd.2.1 rd.2.2]) mv from (hS3.grown gr9 (fun q e => by cases e; have := SZ.out; omega)).new (by have := SZ.out; omega) (Below.refl _ _))
  have hB9 := Lib.hid ((B2.out.trans (hb3.mono B2.out.size)).grown gr9 (B2.out.trans (hb3.mono B2.out.size)).size (fun q e => by cases e; have := SZ.out; omega))
  replace g9 := Lib.hid g9
  clear hS3 hb3 hc3 gr9 gs9 k0 k1 k2 k3 HM
  go_wp2_with fail
  exact bodyPost_ret (v := .tuple #[.agg #[.slice ra.1 ra.2.1 ra.2.2, .slice rb.1 rb.2.1 rb.2.2, .slice rc.1 rc.2.1 rc.2.2, .slice rd.1 rd.2.1 rd.2.2], .int .i64 mn, .int .i64 me]) (by simp [results, Tryz.results21, go_sem, y0, y1, y2, y3]) rfl ⟨ra, rb, rc, rd, rfl, hfin.out, hB9.out⟩
end Go.Proofs.YtogieepfimpdmaaGreat
