/-
  The law's own spoil (layer 3): every byte of a disk of the call's own is turned; what lies below stays. Condition: the disk's cells lie at lo and above and may be written.
-/
import Derived.Test.YtgnogclhleheiaaRefMay
import Derived.Test.YtgnogclhleheiaaGen03
import Derived.StillTailTactics
namespace Go.Proofs.Ytgnogclhleheiaa
open Go.RowKit

structure Spoilt (lo : Nat) (w wr : World) : Prop where
  low : Below lo w wr
  fro : ∀ p : Addr, p.block < w.heap.size → wr.frozen? p = w.frozen? p
  rest : ∀ (p : Addr) (v : Value), p.block < w.heap.size → w.cell? p = some v → (∀ x, v ≠ .int .u8 x) → wr.cell? p = some v
  byte : ∀ (p : Addr) (x : UInt8), p.block < w.heap.size → w.cell? p = some (.int .u8 (x.toNat : Int)) → ∃ y : UInt8, wr.cell? p = some (.int .u8 (y.toNat : Int))
theorem Spoilt.refl (lo : Nat) (w : World) : Spoilt lo w w := ⟨Below.refl _ _, fun _ _ => rfl, fun _ _ _ h _ => h, fun _ x _ h => ⟨x, h⟩⟩
theorem Spoilt.step {lo : Nat} {w wr : World} (h : Spoilt lo w wr) {p : Addr} (hp : lo ≤ p.block) {x : UInt8} (hx : wr.cell? p = some (.int .u8 (x.toNat : Int))) (y : UInt8) : Spoilt lo w (wr.setCell p (.int .u8 (y.toNat : Int))) := by
  refine ⟨h.low.setCell hp _, fun q hq => by rw [World.frozen?_setCell]; exact h.fro q hq, fun q v hq hc hv => ?_, fun q z hq hc => ?_⟩
  · have h1 := h.rest q v hq hc hv
    rw [World.cell?_setCell_other _ _ _ _ (fun e => by
      subst e
      rw [h1] at hx
      exact hv _ (Option.some.inj hx))]
    exact h1
  · by_cases e : p = q
    · subst e
      exact ⟨y, World.cell?_setCell_same _ _ _ hx⟩
    · rw [World.cell?_setCell_other _ _ _ _ e]
      exact h.byte q z hq hc
theorem Spoilt.drew {lo : Nat} {w wr : World} (h : Spoilt lo w wr) : Spoilt lo w wr.drew :=
  ⟨h.low.drew, fun p hp => by simpa using h.fro p hp, fun p v hp hc hv => by simpa using h.rest p v hp hc hv, fun p x hp hc => by simpa using h.byte p x hp hc⟩
theorem Spoilt.after {lo : Nat} {w w0 wr : World} (h : Spoilt lo w0 wr) (hlo : lo ≤ w.heap.size) (hb : Below w.heap.size w w0) : Spoilt lo w wr :=
  ⟨(hb.mono hlo).trans h.low, fun p hp => (h.fro p (Nat.lt_of_lt_of_le hp hb.size)).trans (hb.frozen hp), fun p v hp hc hv => h.rest p v (Nat.lt_of_lt_of_le hp hb.size) ((hb.cell hp).trans hc) hv, fun p x hp hc => h.byte p x (Nat.lt_of_lt_of_le hp hb.size) ((hb.cell hp).trans hc)⟩
theorem Spoilt.new {lo lo' : Nat} {w wr : World} (h : Spoilt lo w wr) {p : Addr} (hp : New lo' w p) : New lo' wr p := ⟨hp.1, Nat.lt_of_lt_of_le hp.2.1 h.low.size, (h.fro p hp.2.1).trans hp.2.2⟩
theorem Spoilt.by {lo lo' : Nat} {w wr : World} {v : Value} {xs : List UInt8} (h : Spoilt lo w wr) (hx : rBy (New lo' w) w [v] xs) : ∃ ys : List UInt8, ys.length = xs.length ∧ rBy (New lo' wr) wr [v] ys := by
  obtain ⟨A, cap, h1, h2, h3, h4⟩ := hx
  obtain ⟨ys, hl, hy⟩ := list_of (n := xs.length) (p := fun i y => ∃ ad vs, A = some ad ∧ vs.length = 1 ∧ (∀ j v, vs[j]? = some v → New lo' wr (ad.add (i * 1 + j)) ∧ wr.cell? (ad.add (i * 1 + j)) = some v) ∧ rU8 (New lo' wr) wr vs y) (fun i hi => by
    obtain ⟨ad, vs, e1, e2, e3, e4⟩ := h4 i _ (List.getElem?_eq_getElem hi)
    unfold rU8 at e4
    subst e4
    obtain ⟨k1, k2⟩ := e3 0 _ rfl
    obtain ⟨y, hy⟩ := h.byte _ _ k1.2.1 k2
    refine ⟨y, ad, [.int .u8 (y.toNat : Int)], e1, rfl, fun j v hj => ?_, rfl⟩
    have hj0 : j = 0 := by
      have := (List.getElem?_eq_some_iff.1 hj).1
      simp at this
      omega
    subst hj0
    cases hj
    exact ⟨h.new k1, hy⟩)
  exact ⟨ys, hl, A, cap, by rw [hl]; exact h1, by rw [hl]; exact h2, h3, fun i y hi => hy i y hi⟩
/-- What is spoilt is a disk all the same. -/
theorem Spoilt.dsk {lo lo' : Nat} {w wr : World} {v : Value} {d : Dk} (h : Spoilt lo w wr) (hd : Dsk (New lo' w) w v d) : ∃ d', Dsk (New lo' wr) wr v d' := by
  obtain ⟨a, b, e, ⟨A, c, a1, a2, a3, a4⟩, ⟨B, c', b1, b2, b3, b4⟩⟩ := hd
  have keep : ∀ (ad : Addr) (k : Nat) (E : Option Addr) (n c : Nat), New lo' w (ad.add k) → w.cell? (ad.add k) = some (.slice E n c) → New lo' wr (ad.add k) ∧ wr.cell? (ad.add k) = some (.slice E n c) := fun ad k E n c k1 k2 => ⟨h.new k1, h.rest _ _ k1.2.1 k2 (by simp)⟩
  obtain ⟨xs, hl, hx⟩ := list_of (n := d.1.length) (p := fun i y => ∃ ad vs, A = some ad ∧ vs.length = 1 ∧ (∀ j v, vs[j]? = some v → New lo' wr (ad.add (i * 1 + j)) ∧ wr.cell? (ad.add (i * 1 + j)) = some v) ∧ rBy (New lo' wr) wr vs y) (fun i hi => by
    obtain ⟨ad, vs, e1, e2, e3, e4⟩ := a4 i _ (List.getElem?_eq_getElem hi)
    match vs, e2 with
    | [u], _ =>
      obtain ⟨ys, _, hy⟩ := h.by e4
      refine ⟨ys, ad, [u], e1, rfl, fun j v hj => ?_, hy⟩
      have hj0 : j = 0 := by
        have := (List.getElem?_eq_some_iff.1 hj).1
        simp at this
        omega
      subst hj0
      cases hj
      obtain ⟨k1, k2⟩ := e3 0 _ rfl
      obtain ⟨E, ce, rfl, _⟩ := rBy_open e4
      exact keep _ _ _ _ _ k1 k2)
  obtain ⟨ws, hl2, hx2⟩ := list_of (n := d.2.length) (p := fun i (y : Wt) => ∃ ad vs, B = some ad ∧ vs.length = 2 ∧ (∀ j v, vs[j]? = some v → New lo' wr (ad.add (i * 2 + j)) ∧ wr.cell? (ad.add (i * 2 + j)) = some v) ∧ rWt (New lo' wr) wr vs y) (fun i hi => by
    obtain ⟨ad, vs, e1, e2, e3, e4⟩ := b4 i _ (List.getElem?_eq_getElem hi)
    obtain ⟨u, rfl, n1, n2, hu⟩ := rWt_open e4
    obtain ⟨ys, _, hy⟩ := h.by hu
    refine ⟨(d.2[i].1, ys), ad, _, e1, e2, fun j v hj => ?_, rWt_mk n1 n2 hy⟩
    match j, hj with
    | 0, hj =>
      cases hj
      obtain ⟨k1, k2⟩ := e3 0 _ rfl
      exact ⟨h.new k1, h.rest _ _ k1.2.1 k2 (by simp)⟩
    | 1, hj =>
      cases hj
      obtain ⟨k1, k2⟩ := e3 1 _ rfl
      obtain ⟨E, ce, rfl, _⟩ := rBy_open hu
      exact keep _ _ _ _ _ k1 k2)
  exact ⟨(xs, ws), a, b, e, ⟨A, c, by rw [hl]; exact a1, by rw [hl]; exact a2, a3, hx⟩, ⟨B, c', by rw [hl2]; exact b1, by rw [hl2]; exact b2, b3, hx2⟩⟩
theorem u8_succ3 (p : UInt8) : IntKind.u8.wrap ((p.toNat : Int) + 1) = ((p + 1).toNat : Int) := by
  rw [IntKind.wrap_u8', UInt8.toNat_add]
  simp

set_option maxRecDepth 100000 in
set_option maxHeartbeats 4000000 in
theorem spoil_any (v : Value) (d : Dk) (lo : Nat) (w : World) (hlo : lo ≤ w.heap.size) (h : Dsk (New lo w) w v d) :
    Calls Try.prog 27 #[v] w fun e w' => (∃ u, e = .returned u) ∧ Spoilt lo w w' := by
  obtain ⟨A, c, B, c', rfl, _⟩ := id h.open
  obtain ⟨w0, hw0, b0, hs0, hB0⟩ := box_pair' w (.slice A d.1.length c) (.slice B d.2.length c') 25
  have h0 := h.new (Nat.le_refl _) hB0
  obtain ⟨A', a', B', b', ev, l1, m1, l2, m2, hA, hB⟩ := h0.open
  cases ev
  obtain ⟨f1, f2, _, lt0⟩ := two_cells b0
  have hB0' := hB0
  have HA := Lib.hid hA
  have HB := Lib.hid hB
  clear hA hB h h0
  obtain ⟨n, hn⟩ : ∃ n, d.1.length = n := ⟨_, rfl⟩
  obtain ⟨m, hm⟩ : ∃ m, d.2.length = m := ⟨_, rfl⟩
  rw [hn] at l1 f1 b0 hw0 ⊢
  rw [hm] at l2 f2 b0 hw0 ⊢
  replace hn := Lib.hid hn
  replace hm := Lib.hid hm
  replace b0 := Lib.hid b0
  replace hs0 := Lib.hid hs0
  go_enter Try.func27, Try.ntmps27
  go_upto_region 1 with fail
  clear hw0
  go_wp2_with fail
  go_loopw [2] (fun i wr => ∃ j : Nat, j ≤ n ∧ i = .int .i64 j ∧ Spoilt lo w0 wr) (fun i _ => n - (intOf i).toNat)
  case atStart => exact ⟨0, by omega, rfl, Spoilt.refl _ _⟩
  case round =>
    obtain ⟨j, hj, rfl, hS⟩ := hrel
    have z1 := hS.rest ⟨w.heap.size, 0, none⟩ _ lt0 f1 (by simp)
    by_cases hlt : j < n
    · obtain ⟨x, hx⟩ : ∃ x, d.1[j]? = some x := ⟨_, List.getElem?_eq_getElem (by rw [hn.out]; exact hlt)⟩
      obtain ⟨rd, u, rfl, hok, hc, hby⟩ := HA.out j x hx
      obtain ⟨E, ce, rfl, lE, mE, HE'⟩ := rBy_open hby
      have HE := Lib.hid HE'
      obtain ⟨q, hq⟩ : ∃ q, x.length = q := ⟨_, rfl⟩
      rw [hq] at lE hc
      replace hq := Lib.hid hq
      replace hok := Lib.hid hok
      clear HE' hby hx
      go_wp2_with fail
      go_loopw [3] (fun i wi => ∃ k : Nat, k ≤ q ∧ i = .int .i64 k ∧ Spoilt lo w0 wi) (fun i _ => q - (intOf i).toNat)
      case atStart => exact ⟨0, by omega, rfl, hS⟩
      case round =>
        clear hS z1
        obtain ⟨k, hk, rfl, hT⟩ := hrel
        have z1 := hT.rest ⟨w.heap.size, 0, none⟩ _ lt0 f1 (by simp)
        have c1 := hT.rest (rd.add j) _ hok.out.2.1 hc (by simp)
        by_cases hl2 : k < q
        · obtain ⟨bd, rfl, hok2, hcb⟩ := HE.out k (by rw [hq.out]; exact hl2)
          obtain ⟨y, hy⟩ := hT.byte (bd.add k) _ hok2.2.1 hcb
          have hf := (hT.fro _ hok2.2.1).trans hok2.2.2
          have hadd := u8_succ3 y
          have hst := Lib.hid (hT.step hok2.1 hy (y + 1))
          generalize (y + 1) = y' at *
          replace hok2 := Lib.hid hok2
          clear hcb hT
          go_wp2_with fail
          go_still_tail 16, (by kernel_rfl)
          change wpList _ _ _ _ _ wr.drew
          go_wp2
          go_roundw
          case rel => exact ⟨k + 1, by omega, by go_num, hst.out.drew⟩
          case measure => simp [intOf]; omega
        · have hT' := Lib.hid hT
          clear hT
          go_wp2_with fail
          go_roundw
          case rel => exact ⟨j + 1, by omega, by go_num, hT'.out⟩
          case measure => simp [intOf]; omega
    · have hS' := Lib.hid hS
      clear hS
      obtain ⟨wo, rfl⟩ : ∃ wo : World, wo = wr := ⟨_, rfl⟩
      go_wp2_with fail
      go_loopw [4] (fun i wr => ∃ j : Nat, j ≤ m ∧ i = .int .i64 j ∧ Spoilt lo w0 wr) (fun i _ => m - (intOf i).toNat)
      case atStart => exact ⟨0, by omega, rfl, hS'.out⟩
      case round =>
        clear z1 hS'
        obtain ⟨j2, hj2, rfl, hS⟩ := hrel
        have z1 := hS.rest ⟨w.heap.size, 1, none⟩ _ lt0 f2 (by simp)
        by_cases hlt2 : j2 < m
        · obtain ⟨x, hx⟩ : ∃ x, d.2[j2]? = some x := ⟨_, List.getElem?_eq_getElem (by rw [hm.out]; exact hlt2)⟩
          obtain ⟨rd, u, rfl, _, hok, _, hc, hby, _, _⟩ := HB.out j2 x hx
          obtain ⟨E, ce, rfl, lE, mE, HE'⟩ := rBy_open hby
          have HE := Lib.hid HE'
          obtain ⟨q, hq⟩ : ∃ q, x.2.length = q := ⟨_, rfl⟩
          rw [hq] at lE hc
          rw [add_next] at hc hok
          replace hq := Lib.hid hq
          replace hok := Lib.hid hok
          clear HE' hby hx
          have c1 := hS.rest _ _ hok.out.2.1 hc (by simp)
          go_wp2_with fail
          go_loopw [5] (fun i wi => ∃ k : Nat, k ≤ q ∧ i = .int .i64 k ∧ Spoilt lo w0 wi) (fun i _ => q - (intOf i).toNat)
          case atStart => exact ⟨0, by omega, rfl, hS⟩
          case round =>
            clear hS z1 c1
            obtain ⟨k, hk, rfl, hT⟩ := hrel
            have z1 := hT.rest ⟨w.heap.size, 1, none⟩ _ lt0 f2 (by simp)
            have c1 := hT.rest _ _ hok.out.2.1 hc (by simp)
            by_cases hl2 : k < q
            · obtain ⟨bd, rfl, hok2, hcb⟩ := HE.out k (by rw [hq.out]; exact hl2)
              obtain ⟨y, hy⟩ := hT.byte (bd.add k) _ hok2.2.1 hcb
              have hf := (hT.fro _ hok2.2.1).trans hok2.2.2
              have hadd := u8_succ3 y
              have hst := Lib.hid (hT.step hok2.1 hy (y + 1))
              generalize (y + 1) = y' at *
              replace hok2 := Lib.hid hok2
              clear hcb hT
              go_wp2_with fail
              go_still_tail 18, (by kernel_rfl)
              change wpList _ _ _ _ _ wr.drew
              go_wp2
              go_roundw
              case rel => exact ⟨k + 1, by omega, by go_num, hst.out.drew⟩
              case measure => simp [intOf]; omega
            · have hT' := Lib.hid hT
              clear hT
              go_wp2_with fail
              go_roundw
              case rel => exact ⟨j2 + 1, by omega, by go_num, hT'.out⟩
              case measure => simp [intOf]; omega
        · have hfin := Lib.hid (hS.after hlo hB0')
          clear hS
          go_wp2_with fail
          go_end0
          exact ⟨⟨_, rfl⟩, hfin.out⟩
end Go.Proofs.Ytgnogclhleheiaa
