/-
  For every store, block and number RoomCounts answers true and leaves its arguments as they were. No condition.
-/
import Derived.Test.YtjlbkcnhbndgbaaBnd2
import Derived.Deep.CutRange
namespace Go.Proofs.Ytjlbkcnhbndgbaa.roomCounts
open Go.ChangeShapes Go.WideShapes Go.RowKit

theorem own : ownKnob Try.prog.godebug = none := by kernel_rfl
theorem laidOut : laidOutB Try.prog = true := by kernel_rfl

set_option maxRecDepth 100000 in
set_option maxHeartbeats 8000000 in
theorem walk (v : Value) (s : Rm) (u : Value) (b : List UInt8) (n : Int) (_hn : (Lit.int .i64 n).wf = true) (w : World) (h : Sto (Old w) w v s) (hu : rBy (Old w) w [u] b) :
    Calls Try.prog 6 #[v, u, .int .i64 n] w fun e w' => e = .returned (.bool true) ∧ Below w.heap.size w w' := by
  clear _hn
  obtain ⟨A, ca, B, cb, N, cn, L, cl, rfl, _, _, _⟩ := h.open
  obtain ⟨E, ce, rfl, _⟩ := id (rBy_open hu)
  have HG0 : Bag w [OldB (.slice E b.length ce) b, OldR (.agg #[.slice A s.1.1.length ca, .slice B s.1.2.length cb, .slice N s.2.1.length cn, .slice L s.2.2.length cl]) s] := ((Bag.nil w).add (F := OldR _ s) h (lasts_oldR _ _)).add (F := OldB _ b) hu (lasts_oldB _ _)
  obtain ⟨w1, hw1, hg1, hB1, _, hs1⟩ := bag_four HG0 (Below.refl _ _) (.slice A s.1.1.length ca) (.slice B s.1.2.length cb) (.slice N s.2.1.length cn) (.slice L s.2.2.length cl) 33
  have HG1 := Lib.hid hg1
  have B1 := Lib.hid hB1
  replace hs1 := Lib.hid hs1
  obtain ⟨k0, k1, k2, k3, kg⟩ := hg1.at 0 rfl
  clear HG0 hg1 h hu hB1
  go_enter Try.func6, Try.ntmps6
  go_upto_region 1 with fail
  clear hw1 k0 k1 k2 k3
  go_wp2_with fail
  with_reducible refine (alive8 _).mono ?_
  rintro e w2 ⟨rfl, hb2⟩
  have HG2 := Lib.hid (HG1.out.below hb2)
  have B2 := Lib.hid (B1.out.trans (hb2.mono B1.out.size))
  clear hb2 HG1 B1
  obtain ⟨k0, k1, k2, k3, kg⟩ := HG2.out.at 0 rfl
  go_wp2_with fail
  with_reducible refine (greatR_any _ s _ (HG2.out.at 2 rfl)).mono ?_
  rintro e w3 ⟨rfl, hb3⟩
  have HG3 := Lib.hid (HG2.out.below hb3)
  have B3 := Lib.hid (B2.out.trans (hb3.mono B2.out.size))
  clear hb3 HG2 B2 k0 k1 k2 k3 kg
  obtain ⟨k0, k1, k2, k3, kg⟩ := HG3.out.at 0 rfl
  cases hgr : greatR s with
  | true =>
    go_wp2_with fail
    go_ret
    exact ⟨rfl, B3.out⟩
  | false =>
  clear hgr
  by_cases hl : 10000 < b.length
  · have hl' : (10000 : Int) < b.length := by omega
    go_wp2_with fail
    go_ret
    exact ⟨rfl, B3.out⟩
  have hl' : ¬ (10000 : Int) < b.length := by omega
  go_wp2_with fail
  with_reducible refine (checkR_any _ s _ (HG3.out.at 2 rfl)).mono ?_
  rintro e w4 ⟨rfl, hb4⟩
  have HG4 := Lib.hid (HG3.out.below hb4)
  have B4 := Lib.hid (B3.out.trans (hb4.mono B3.out.size))
  clear hb4 HG3 B3 k0 k1 k2 k3 kg
  obtain ⟨k0, k1, k2, k3, kg⟩ := HG4.out.at 0 rfl
  cases hm : mayR s with
  | false =>
    rw [chkR_bad hm]
    go_wp2_with fail
    go_ret
    exact ⟨rfl, B4.out⟩
  | true =>
  rw [chkR_ok hm]
  go_wp2_with fail
  clear hl hl'
  with_reducible refine (freeR_open _ s hm _ (HG4.out.at 2 rfl)).mono ?_
  rintro e w5 ⟨X, xc, rfl, hx, hb5⟩
  obtain ⟨M, hM⟩ : ∃ M, (freeL s).length = M := ⟨_, rfl⟩
  rw [hM] at hx ⊢
  have HG5 := Lib.hid ((HG4.out.below hb5).add (F := OldZ (.slice X M xc) (intsN (freeL s))) (stab_ints.drop hx) (lasts_oldZ _ _))
  have B5 := Lib.hid (B4.out.trans (hb5.mono B4.out.size))
  replace hM := Lib.hid hM
  clear hb5 hx HG4 B4 k0 k1 k2 k3 kg
  obtain ⟨k0, k1, k2, k3, kg⟩ := HG5.out.at 1 rfl
  go_wp2_with fail
  with_reducible refine (takeR_open _ _ s b _ (HG5.out.at 3 rfl) (HG5.out.at 2 rfl)).mono ?_
  rintro e w6 ⟨A6, ca6, B6, cb6, N6, cn6, L6, cl6, rfl, ht, hb6⟩
  obtain ⟨T, hT⟩ : ∃ T, tkV s b = T := ⟨_, rfl⟩
  obtain ⟨q, hq⟩ : ∃ q, tkE s b = q := ⟨_, rfl⟩
  obtain ⟨p1, hp1⟩ : ∃ p, tkN s b = p := ⟨_, rfl⟩
  rw [hT] at ht ⊢
  rw [hq, hp1]
  have HG6 := (HG5.out.below hb6).add (F := OldR _ T) ht.drop (lasts_oldR _ _)
  obtain ⟨w7, hw7, hg7, hB7, _, hs7⟩ := bag_four HG6 (Below.refl _ _) (.slice A6 T.1.1.length ca6) (.slice B6 T.1.2.length cb6) (.slice N6 T.2.1.length cn6) (.slice L6 T.2.2.length cl6) 33
  have HG7 := Lib.hid hg7
  have B7 := Lib.hid (B5.out.trans ((hb6.trans (hB7.mono hb6.size)).mono B5.out.size))
  replace hs7 := Lib.hid hs7
  replace hT := Lib.hid hT
  replace hp1 := Lib.hid hp1
  clear HG6 hg7 hB7 hb6 ht HG5 B5 k0 k1 k2 k3 kg
  obtain ⟨k0, k1, k2, k3, kg⟩ := HG7.out.at 3 rfl
  obtain ⟨j0, j1, j2, j3, jg⟩ := HG7.out.at 0 rfl
  obtain ⟨bl, hbl⟩ : ∃ bl, b.length = bl := ⟨_, rfl⟩
  obtain ⟨wl, hwl⟩ : ∃ wl, s.1.2.length = wl := ⟨_, rfl⟩
  rw [hbl] at HG7 ⊢
  rw [hwl] at HG7 k1 ⊢
  have hways : Hid (∀ pb : Bool, (q == 0) = pb → pb = (decide (0 < M) && decide (bl = 128) && decide (wl < 4096))) := Lib.hid (by
    rintro pb rfl
    rw [← hq, ← hM.out, ← hbl, ← hwl]
    rcases tk_ways s b with ⟨hm', _⟩ | ⟨_, h1, h2⟩ | ⟨_, h1, h2, h3⟩ | ⟨_, h1, h2, h3, h4⟩ | ⟨_, h1, h2, h3, h4⟩
    · rw [hm] at hm'; cases hm'
    · rw [h2]; simp [h1]
    · rw [h3]; simp [h2]
    · rw [h4]; simp; omega
    · rw [h4]
      have : 0 < (freeL s).length := List.length_pos_iff.2 h2
      simp [h1, h3, this])
  obtain ⟨pb, hpb⟩ : ∃ pb, (q == 0) = pb := ⟨_, rfl⟩
  have hpw := Lib.hid (hways.out pb hpb)
  have hpp : (pb != pb) = false := by cases pb <;> rfl
  replace hq := Lib.hid hq
  replace hbl := Lib.hid hbl
  replace hwl := Lib.hid hwl
  clear hways
  go_upto_region 6 with fail
  clear hw7
  go_cut [13] from 51 to 65 (fun x13 wx => x13 = .bool pb ∧ w7 = wx)
  case first =>
    by_cases h1 : 0 < M
    · by_cases h2 : bl = 128
      · have h3 : ((bl : Int) == 128) = true := by rw [h2]; rfl
        by_cases h4 : wl < 4096
        · have h4' : (wl : Int) < 4096 := by omega
          have he : Hid (pb = true) := Lib.hid (by rw [hpw.out]; simp [h1, h2, h4])
          clear h2 hpb hpp
          go_wp2_with fail
          go_meet
          exact ⟨by rw [he.out], rfl⟩
        · have h4' : ¬ (wl : Int) < 4096 := by omega
          have he : Hid (pb = false) := Lib.hid (by rw [hpw.out]; simp [h1, h2, h4])
          clear h2 hpb hpp
          go_wp2_with fail
          go_meet
          exact ⟨by rw [he.out], rfl⟩
      · have h3 : ((bl : Int) == 128) = false := by rw [beq_eq_false_iff_ne]; omega
        have he : Hid (pb = false) := Lib.hid (by rw [hpw.out]; simp [h2])
        clear h2 hpb hpp
        go_wp2_with fail
        go_meet
        exact ⟨by rw [he.out], rfl⟩
    · have he : Hid (pb = false) := Lib.hid (by rw [hpw.out]; simp [h1])
      have h1' : ¬ (0 : Int) < (M : Int) := by omega
      clear hpb hpp
      go_wp2_with fail
      go_meet
      exact ⟨by rw [he.out], rfl⟩
  case rest =>
  obtain ⟨rfl, rfl⟩ := hcut
  go_upto_if 75 with fail
  go_cut [14, 15, 16] from 75 to 121 (fun x14 x15 x16 wx => Below w7.heap.size w7 wx)
  case first =>
    cases pb with
    | false =>
      go_wp2_with fail
      go_meet
      exact Below.refl _ _
    | true =>
    have hE : tkE s b = 0 := by rw [hq.out]; simpa using hpb
    obtain ⟨-, -, -, hfl, h8, h256, hx0, hx1, hN, -⟩ := tk_ok hE
    obtain ⟨c1, -, -, -⟩ := tk_counts hE
    have hmT := tk_may hE
    have hfT := tk_free hE
    rw [hp1.out] at hN
    rw [hT.out] at c1 hmT hfT
    obtain ⟨k, hk⟩ : ∃ k, tkK s = k := ⟨_, rfl⟩
    obtain ⟨tl, htl⟩ : ∃ tl, (freeL s).tail = tl := ⟨_, rfl⟩
    rw [hk] at h8 h256 c1 hfl hN
    rw [htl] at hfT hfl
    subst hN
    have HT7 : Hid (Sto (Old w7) w7 (.agg #[.slice A6 T.1.1.length ca6, .slice B6 T.1.2.length cb6, .slice N6 T.2.1.length cn6, .slice L6 T.2.2.length cl6]) T) := Lib.hid (HG7.out.at 1 rfl)
    obtain ⟨cd, dd, rfl, rfl, hl3, hl4, l3, l4, cT⟩ := tables_far hmT HT7.out
    obtain ⟨hm1, hm2, hxc⟩ := ints_at (HG7.out.at 2 rfl : rInts (Old w7) w7 _ _)
    obtain ⟨xad, rfl, hxb, hx⟩ := hxc 0 k (by rw [hfl]; rfl)
    replace hxb : xad.block < w7.heap.size := by simpa [Addr.add] using hxb
    replace hx : w7.cell? xad = some (.int .i64 (k : Int)) := by simpa [Addr.add] using hx
    have hlen : M = tl.length + 1 := by rw [← hM.out, hfl]; rfl
    have hlb : M ≤ 248 := by rw [← hM.out]; exact freeK_len s 248
    have xcell : Hid (∀ (j y : Nat), tl[j]? = some y → ∀ W, Below w7.heap.size w7 W → W.cell? (xad.add (j + 1)) = some (.int .i64 (y : Int))) := Lib.hid fun j y hj W hW => by
      obtain ⟨xad', e', hb', hc'⟩ := hxc (j + 1) y (by rw [hfl]; simpa using hj)
      cases e'
      exact (hW.cell hb').trans hc'
    have q3 : Hid (∀ W, Below w7.heap.size w7 W → W.cell? (cd.add k) = some (.int .u8 1)) := Lib.hid fun W hW => by rw [(cT.out k h256 W hW).1, c1]; rfl
    have hx' : Hid (∀ W, Below w7.heap.size w7 W → W.cell? xad = some (.int .i64 (k : Int))) := Lib.hid fun W hW => (hW.cell hxb).trans hx
    have i3 : k < T.2.1.length := by rw [hl3]; exact h256
    have hmT' := Lib.hid hmT
    have hfT' := Lib.hid hfT
    have hm0 : 0 < M := by omega
    have hm0' : (0 : Int) < (M : Int) := by omega
    have w1' : IntKind.i64.wrap ((M : Int) - 1) = tl.length := by rw [IntKind.wrap_i64]; omega
    have z1 : (tl.length != tl.length) = false := by simp
    have z2 : ((tl.length : Int) != (tl.length : Int)) = false := by simp
    have hlen' := Lib.hid hlen
    replace hl3 := Lib.hid hl3
    replace hl4 := Lib.hid hl4
    replace hk := Lib.hid hk
    replace htl := Lib.hid htl
    replace hm1 := Lib.hid hm1
    clear hxc hx c1 hmT hfT hfl hlen hx0 hx1 hE hpb cT
    go_wp2_with fail
    with_reducible refine (freeR_open _ T hmT'.out _ HT7.out).mono ?_
    rintro e w8 ⟨Y, yc, rfl, hy, hb8⟩
    rw [hfT'.out] at hy ⊢
    obtain ⟨hy1, hy2, hyc⟩ := ints_at (stab_ints.drop hy)
    have ycell : Hid (∀ (j y : Nat), tl[j]? = some y → ∃ yad, Y = some yad ∧ ∀ W, Below w8.heap.size w8 W → W.cell? (yad.add j) = some (.int .i64 (y : Int))) := Lib.hid fun j y hj => by
      obtain ⟨yad, e, hb, hc⟩ := hyc j y hj
      exact ⟨yad, e, fun W hW => (hW.cell hb).trans hc⟩
    have x8 := hx'.out w8 hb8
    have q8 := q3.out w8 hb8
    obtain ⟨j0', j1', j2', j3', _⟩ := (HG7.out.below hb8).at 0 rfl
    have z3 : ((1 : Int) != 1) = false := rfl
    have B8 := Lib.hid hb8
    clear hb8 hy hyc hy1
    go_wp2_with fail
    clear x8 q8 j0' j1' j2' j3'
    go_loopw [16] (fun i wr => ∃ j : Nat, j ≤ tl.length ∧ i = .int .i64 j ∧ Below w8.heap.size w8 wr) (fun i _ => tl.length - (intOf i).toNat)
    case atStart => exact ⟨0, by omega, rfl, Below.refl _ _⟩
    case round =>
      obtain ⟨j, hj, rfl, hbr⟩ := hrel
      by_cases hlt : j < tl.length
      · obtain ⟨y, hy⟩ : ∃ y, tl[j]? = some y := ⟨_, List.getElem?_eq_getElem hlt⟩
        obtain ⟨yad, rfl, hyy⟩ := ycell.out j y hy
        have q1 := hyy wr hbr
        have q2 := xcell.out j y hy wr (B8.out.trans (hbr.mono B8.out.size))
        have q2' : wr.cell? ⟨xad.block, xad.off + (j + 1), none⟩ = some (.int .i64 (y : Int)) := by simpa [Addr.add] using q2
        have g4 : (0 : Int) ≤ (j : Int) + 1 := by omega
        have g0 : (j : Int) < (tl.length : Int) := by omega
        have g1 : (j : Int) + 1 < (M : Int) := by have := hlen'.out; omega
        have g2 : j + 1 < M := by have := hlen'.out; omega
        have g3 : IntKind.i64.wrap ((j : Int) + 1) = (j : Int) + 1 := by rw [IntKind.wrap_i64]; omega
        have hbr' := Lib.hid hbr
        clear hbr hyy hy
        go_upto_region 16 with fail
        go_quiet (fail)
        go_wp2_with fail
        go_roundw
        case rel => exact ⟨j + 1, by omega, by go_num, below_drewN hbr'.out _⟩
        case measure => simp [intOf]; omega
      · have g0 : ¬ (j : Int) < (tl.length : Int) := by omega
        have hbr' := Lib.hid (B8.out.trans (hbr.mono B8.out.size))
        clear hbr
        go_wp2_with fail
        go_meet
        exact hbr'.out
  case rest =>
  obtain ⟨w8, rfl⟩ : ∃ w8 : World, w8 = wc := ⟨_, rfl⟩
  have HG8 := Lib.hid (HG7.out.below hcut)
  have B8 := Lib.hid (B7.out.trans (hcut.mono B7.out.size))
  clear hcut HG7 B7 k0 k1 k2 k3 kg j0 j1 j2 j3 jg
  obtain ⟨k0, k1, k2, k3, kg⟩ := HG8.out.at 3 rfl
  clear hpb hpp
  go_wp2_with fail
  with_reducible refine (shareR_open _ s n _ (HG8.out.at 5 rfl)).mono ?_
  rintro e w9 ⟨A9, a9, B9', b9, N9, n9, L9, l9, rfl, ht, hb9⟩
  have HG9 := (HG8.out.below hb9).add (F := OldR _ (shV s n)) ht.drop (lasts_oldR _ _)
  obtain ⟨w10, hw10, hg10, hB10, _, hs10⟩ := bag_four HG9 (Below.refl _ _) (.slice A9 (shV s n).1.1.length a9) (.slice B9' (shV s n).1.2.length b9) (.slice N9 (shV s n).2.1.length n9) (.slice L9 (shV s n).2.2.length l9) 33
  have HG10 := Lib.hid hg10
  have B10 := Lib.hid (B8.out.trans ((hb9.trans (hB10.mono hb9.size)).mono B8.out.size))
  replace hs10 := Lib.hid hs10
  clear HG9 hg10 hB10 hb9 ht HG8 B8 k0 k1 k2 k3 kg
  obtain ⟨k0, k1, k2, k3, kg⟩ := HG10.out.at 5 rfl
  obtain ⟨j0, j1, j2, j3, jg⟩ := HG10.out.at 0 rfl
  go_upto_region 19 with fail
  clear hw10
  by_cases he : shE s n = 0
  · obtain ⟨k, rfl, -, h8, h256, hx0, hx255, hln, hV⟩ := sh_ok he
    rw [he]
    obtain ⟨hu, hu1, hu2⟩ := up_byte hx255
    have hPl : (shV s k).2.1.length = 256 := by rw [hV, List.length_set, hln]
    have hPa : (shV s k).2.1[k]?.getD 0 = s.2.1[k]?.getD 0 + 1 := by rw [hV]; exact set_get (by omega)
    have hPd : (shV s k).1 = s.1 := by rw [hV]
    have hPm := sh_may he
    have hPf := sh_free he
    clear hV he
    obtain ⟨P, hP⟩ : ∃ P, shV s k = P := ⟨_, rfl⟩
    rw [hP] at HG10 j0 j1 j2 j3 hPl hPa hPd hPm hPf ⊢
    obtain ⟨x, hx⟩ : ∃ x, s.2.1[k]?.getD 0 = x := ⟨_, rfl⟩
    rw [hx] at hx0 hu hu1 hu2 hPa
    have HS10 : Hid (Sto (Old w10) w10 (.agg #[.slice A s.1.1.length ca, .slice B wl cb, .slice N s.2.1.length cn, .slice L s.2.2.length cl]) s) := Lib.hid (HG10.out.at 7 rfl)
    have HP10 : Hid (Sto (Old w10) w10 (.agg #[.slice A9 P.1.1.length a9, .slice B9' P.1.2.length b9, .slice N9 P.2.1.length n9, .slice L9 P.2.2.length l9]) P) := Lib.hid (HG10.out.at 1 rfl)
    obtain ⟨ad, ld, rfl, rfl, hl1, hl2, _, _, cS⟩ := tables_far hm HS10.out
    obtain ⟨cd, dd, rfl, rfl, hl3, hl4, _, _, cP⟩ := tables_far hPm HP10.out
    obtain ⟨z, hz⟩ : ∃ z : Int, (x.toNat : Int) + 1 = z := ⟨_, rfl⟩
    have q1 : Hid (∀ W, Below w10.heap.size w10 W → W.cell? (ad.add k) = some (.int .u8 (x.toNat : Int))) := Lib.hid fun W hW => by rw [(cS.out k h256 W hW).1, hx]
    have q2 : Hid (∀ W, Below w10.heap.size w10 W → W.cell? (cd.add k) = some (.int .u8 z)) := Lib.hid fun W hW => by rw [(cP.out k h256 W hW).1, hPa, ← hu, hz]
    have hwr : Hid (IntKind.u8.wrap ((x.toNat : Int) + 1) = z) := Lib.hid (by rw [← hz]; simp only [IntKind.wrap, IntKind.signed, IntKind.bits]; simp; omega)
    have hsm : Hid (sameB P.1 s.1 = true) := Lib.hid (by rw [hPd]; simp [sameB])
    have i3 : Hid (k < s.2.1.length ∧ k < P.2.1.length) := Lib.hid ⟨by rw [hl1]; exact h256, by rw [hl3]; exact h256⟩
    have hPm' := Lib.hid hPm
    have hPf' := Lib.hid hPf
    replace hx := Lib.hid hx
    replace hu := Lib.hid hu
    replace hz := Lib.hid hz
    replace hP := Lib.hid hP
    replace hl1 := Lib.hid hl1
    replace hl2 := Lib.hid hl2
    replace hl3 := Lib.hid hl3
    replace hl4 := Lib.hid hl4
    replace hln := Lib.hid hln
    replace hPl := Lib.hid hPl
    replace hPa := Lib.hid hPa
    replace hPd := Lib.hid hPd
    clear hPm hPf cS cP hx0 hx255
    go_wp2_with fail
    with_reducible refine (freeR_open _ P hPm'.out _ HP10.out).mono ?_
    rintro e w11 ⟨Z, zc, rfl, -, hb11⟩
    rw [hPf'.out, hM.out]
    have HS11 := Lib.hid (HS10.out.below hb11)
    have HP11 := Lib.hid (HP10.out.below hb11)
    have B11 := Lib.hid (B10.out.trans (hb11.mono B10.out.size))
    have HG11 := Lib.hid (HG10.out.below hb11)
    have b11 := Lib.hid hb11
    clear hb11 HS10 HP10 HG10 B10 k0 k1 k2 k3 kg j0 j1 j2 j3 jg
    obtain ⟨k0, k1, k2, k3, kg⟩ := HG11.out.at 5 rfl
    obtain ⟨j0, j1, j2, j3, jg⟩ := HG11.out.at 0 rfl
    go_upto_region 22 with fail
    refine wp_region_fx (by kernel_rfl) (fun W => Below w11.heap.size w11 W) (fun _ => none) (fun i => match i with
      | 31 => some (.bool true)
      | _ => none) (by kernel_rfl) (Below.refl _ _).drew (fun w w' h hb => h.trans (hb.mono h.size)) (fun j φ x w w' hp => by cases hp) ?_
    repeat (first
      | (refine wpAs_skip rfl ?_; simp only [Act.put, List.setIfInBounds_toArray, List.set_cons_zero, List.set_cons_succ])
      | (refine wpAs_pure (v := ?_) rfl rfl ?_ ?_; rotate_left; (intro W hC hE; clear hE; (have i3' := i3.out.1; have i4' := i3.out.2; have hwr' := hwr.out; have g1 : (z == z) = true := (by simp); have g2 : (M == M) = true := (by simp); have g3 : ((M : Int) == (M : Int)) = true := (by simp); have a1 := q1.out W (b11.out.trans (hC.mono b11.out.size)); have a2 := q2.out W (b11.out.trans (hC.mono b11.out.size)); have z0 := (hC.cell (p := ⟨w.heap.size, 0, none⟩) kg).trans k0; have z1 := (hC.cell (p := ⟨w.heap.size, 1, none⟩) kg).trans k1; have z2 := (hC.cell (p := ⟨w.heap.size, 2, none⟩) kg).trans k2; have y2 := (hC.cell (p := ⟨w9.heap.size, 2, none⟩) jg).trans j2; have y0 := (hC.cell (p := ⟨w9.heap.size, 0, none⟩) jg).trans j0; have y1 := (hC.cell (p := ⟨w9.heap.size, 1, none⟩) jg).trans j1); clear hC; go_simp; done); simp only [Act.put, List.setIfInBounds_toArray, List.set_cons_zero, List.set_cons_succ])
      | (refine wpAs_pure (v := ?_) rfl rfl ?_ ?_; rotate_left; (intro W hC hE; clear hE; (have i3' := i3.out.1; have i4' := i3.out.2; have hwr' := hwr.out; have g1 : (z == z) = true := (by simp); have g2 : (M == M) = true := (by simp); have g3 : ((M : Int) == (M : Int)) = true := (by simp); have a1 := q1.out W (b11.out.trans (hC.mono b11.out.size)); have a2 := q2.out W (b11.out.trans (hC.mono b11.out.size)); have z0 := (hC.cell (p := ⟨w.heap.size, 0, none⟩) kg).trans k0; have z1 := (hC.cell (p := ⟨w.heap.size, 1, none⟩) kg).trans k1; have z2 := (hC.cell (p := ⟨w.heap.size, 2, none⟩) kg).trans k2; have y2 := (hC.cell (p := ⟨w9.heap.size, 2, none⟩) jg).trans j2; have y0 := (hC.cell (p := ⟨w9.heap.size, 0, none⟩) jg).trans j0; have y1 := (hC.cell (p := ⟨w9.heap.size, 1, none⟩) jg).trans j1); clear hC; go_simp; with_reducible rfl); simp only [Act.put, List.setIfInBounds_toArray, List.set_cons_zero, List.set_cons_succ]))
    refine wpAs_fixed rfl rfl rfl ?_ ?_
    · intro W hC hE
      refine does_enter (f := 17) (args := #[.agg #[.slice A9 P.1.1.length a9, .slice B9' P.1.2.length b9], .agg #[.slice A s.1.1.length ca, .slice B wl cb]]) ?_ ?_
      · go_simp
      · refine (same_any _ _ P.1 s.1 W (HP11.out.parts.1.below hC) (HS11.out.parts.1.below hC)).mono ?_
        rintro e w' ⟨rfl, hg⟩; rw [hsm.out]
        exact ⟨_, rfl, rfl, hg⟩
    simp only [Act.put, List.setIfInBounds_toArray, List.set_cons_zero, List.set_cons_succ]
    repeat (first
      | (refine wpAs_skip rfl ?_; simp only [Act.put, List.setIfInBounds_toArray, List.set_cons_zero, List.set_cons_succ])
      | (refine wpAs_pure (v := ?_) rfl rfl ?_ ?_; rotate_left; (intro W hC hE; clear hE; skip; clear hC; go_simp; done); simp only [Act.put, List.setIfInBounds_toArray, List.set_cons_zero, List.set_cons_succ])
      | (refine wpAs_pure (v := ?_) rfl rfl ?_ ?_; rotate_left; (intro W hC hE; clear hE; skip; clear hC; go_simp; with_reducible rfl); simp only [Act.put, List.setIfInBounds_toArray, List.set_cons_zero, List.set_cons_succ]))
    refine wpAs_end fun W hC hE => ?_
    clear hE
    have BW := B11.out.trans (hC.mono B11.out.size)
    clear hC
    go_wp2_with fail
    go_ret
    exact ⟨rfl, BW⟩
  · have hnil : shV s n = emptyR := sh_no he
    obtain ⟨p, hp⟩ : ∃ p, shE s n = p := ⟨_, rfl⟩
    have hp1' : (p != 0) = true := by rw [← hp]; simpa using he
    rw [hp]
    rw [hnil] at HG10 j0 j1 j2 j3 ⊢
    replace hp := Lib.hid hp
    clear he hnil
    go_wp2_with fail
    go_ret
    exact ⟨by simp [emptyR], B10.out⟩

/-! ### The row's step -/
set_option maxRecDepth 100000 in
theorem lifted (os : Os) (started : os.Started) (H : Type) (enc : TypeId × Value → H) :
    ReturnsInHanded {} Try.checked os 6 .any (Rows.roomCountsSpec.pre6 enc Try.prog Try.f6 Rows.roomCountsRow.domain false) (Rows.roomCountsSpec.post enc Try.prog Try.f6 false true false false) := by
  refine returnsInHanded_of_change (C := Try.checked) own started (by kernel_rfl) Try.func6
    (ChangeSpec.witness6 (enc := enc) (C := Try.checked) false ⟨#[], #[.agg #[.slice none 0 0, .slice none 0 0, .slice none 0 0, .slice none 0 0], .slice none 0 0, .int .i64 0], []⟩ 8 (by kernel_rfl) (by kernel_rfl) (by kernel_rfl) (by kernel_rfl)) ?_
  intro W base args ds gs before hval0 hW _ _
  have hval : ∀ (j : Nat) t v, Try.f6.params[j]? = some t → args[j]? = some v → Value.okWide Try.prog W .any base t v := hval0
  have hW' := hW
  obtain ⟨p, q, hA0, hV, _, _, _⟩ := hW
  have hA : DataW.TrodAll enc Try.prog W 0 (fun _ => true) true Try.f6.params.toList args.toList ds p := hA0
  rw [Try.params6] at hA hval
  obtain ⟨v0, vs0, d0, ds0, p0, q0, hargs, rfl, _, h0, r0⟩ := trodAll_cons hA
  obtain ⟨v1, vs1, d1, ds1, p1, q1, rfl, rfl, _, h1, r1⟩ := trodAll_cons r0
  obtain ⟨v2, vs2, d2, ds2, p2, q2, rfl, rfl, _, h2, r2⟩ := trodAll_cons r1
  obtain ⟨rfl, rfl, _⟩ := trodAll_nil r2
  obtain rfl : args = #[v0, v1, v2] := by cases args; simp_all
  obtain ⟨rfl, _⟩ := trodVars_none hV
  obtain ⟨d0x, y0⟩ := open_store (hval 0 33 v0 rfl rfl) h0
  obtain ⟨d1x, y1⟩ := open_by (hval 1 31 v1 rfl rfl) h1
  obtain ⟨a2, rfl, _, _, w2⟩ := open_int Try.underlying3 (hval 2 3 v2 rfl rfl) h2
  clear hA0 hval0
  refine (walk v0 d0x v1 d1x a2 w2 W y0 y1).mono fun e W' ⟨he, hb⟩ => ?_
  subst he
  exact ⟨_, rfl, law_post laidOut (by rw [Try.params6]; decide +kernel) (by kernel_rfl) Try.underlying4 rfl ⟨rfl, by simp [Rows.roomCountsSpec], rfl⟩ hW' hb⟩

theorem over : Rows.roomCountsRow.holds Try.pinned (OpenSpec.ofChange Rows.roomCountsSpec) :=
  OpenClaim.holds_of_wide 6 Try.f6 rfl rfl rfl rfl rfl rfl rfl ⟨rfl, rfl, rfl, rfl, rfl⟩ rfl rfl rfl rfl rfl (by kernel_rfl) Try.func6 (by kernel_rfl)
    (of_decide_eq_true (by kernel_rfl)) (by unfold Func.isWrapper; first | (rw [if_pos (by decide +kernel)]; kernel_rfl) | (rw [if_neg (by decide +kernel)]; exact ⟨rfl, rfl⟩))
    (fun os started H enc _ => lifted os started H enc)

end Go.Proofs.Ytjlbkcnhbndgbaa.roomCounts
namespace Go.Proofs.Ytjlbkcnhbndgbaa
theorem roomCounts_proved : Rows.RoomCountsSaid := roomCounts.over
end Go.Proofs.Ytjlbkcnhbndgbaa
