/-
  Lemmas on the program and on the document's answers, gathered: RingWrite, RingRead, RingRead2, RingRead3, RefRead4, Bag04, SortSup, Stand, Find04, LawSame, Back04, Put04, Alive04, Plain04, Stay04, RefStand, RefFind, RefOk, RefPut4. Conditions: those that each lemma states.
-/
import Derived.Test.YtdcgcnnofjekaaaBnd2
/-
  Package ring: Write. Conditions: those that each lemma states.
-/
namespace Go.Proofs.Ytdcgcnnofjekaaa
open Go.RowKit

theorem four_by (n : Int) (h0 : 0 ≤ n) (h1 : n < 4294967296) (w : World) :
    Calls Try.prog 43 #[.int .u32 n] w fun e w' => ∃ A c, e = .returned (.slice A 4 c) ∧ rBy (Old w') w' [.slice A 4 c] (le 4 n) ∧ Below w.heap.size w w' :=
  (four_any n h0 h1 w).mono fun _ _ ⟨A, e, hy, hb⟩ => ⟨A, 4, e, by have := byt_rBy (cap := 4) hy (by rw [le_length]; omega) (by omega); rwa [le_length] at this, hb⟩
theorem two_by (n : Int) (h0 : 0 ≤ n) (h1 : n < 65536) (w : World) :
    Calls Try.prog 41 #[.int .i64 n] w fun e w' => ∃ A, e = .returned (.tuple #[.slice A 2 2, .int .i64 0]) ∧ rBy (Old w') w' [.slice A 2 2] (le 2 n) ∧ Below w.heap.size w w' :=
  (two_ok n h0 h1 w).mono fun _ _ ⟨A, e, hy, hb⟩ => ⟨A, e, by have := byt_rBy (cap := 2) hy (by rw [le_length]; omega) (by omega); rwa [le_length] at this, hb⟩
theorem byte_lit (w : World) (t : TypeId) (x : UInt8) (n : Int) (h : (x.toNat : Int) = n) : rBy (Old (w.alloc (.cells #[.int .u8 n] t))) (w.alloc (.cells #[.int .u8 n] t)) [.slice (some ⟨w.heap.size, 0, none⟩) 1 1] [x] := by
  subst h
  have hy := byt_new w t [x] #[.int .u8 (x.toNat : Int)] rfl
  have e : (w.alloc (.cells #[.int .u8 (x.toNat : Int)] t)).heap.size = w.heap.size + 1 := by simp
  rw [← e] at hy
  exact byt_rBy (xs := [x]) (cap := 1) hy (Nat.le_refl _) (by omega)
/-- A literal row of slices of bytes. -/
theorem rows_lit (w : World) (t : TypeId) (vs : List Value) (xss : List (List UInt8)) (hl : vs.length = xss.length) (hb : xss.length ≤ 1000) (h : ∀ (i : Nat) (v : Value) (x : List UInt8), vs[i]? = some v → xss[i]? = some x → rBy (Old w) w [v] x) :
    rSl 1 rBy (Old (w.alloc (.cells vs.toArray t))) (w.alloc (.cells vs.toArray t)) [.slice (some ⟨w.heap.size, 0, none⟩) xss.length xss.length] xss := by
  have hB : Below w.heap.size w (w.alloc (.cells vs.toArray t)) := (Below.refl _ _).alloc (Nat.le_refl _) _
  refine ⟨_, _, rfl, Nat.le_refl _, by omega, fun i x hi => ?_⟩
  have hil : i < vs.length := by rw [hl]; exact (List.getElem?_eq_some_iff.1 hi).1
  have hv : vs[i]? = some vs[i] := List.getElem?_eq_getElem hil
  refine ⟨_, [vs[i]], rfl, rfl, fun j v hj => ?_, stab_by.old (h i _ x hv hi) hB⟩
  have hj0 : j = 0 := by
    have := (List.getElem?_eq_some_iff.1 hj).1
    simp at this
    omega
  subst hj0
  cases hj
  have e : (⟨w.heap.size, 0, none⟩ : Addr).add (i * 1 + 0) = ⟨w.heap.size, i, none⟩ := by rw [add_off]; simp
  rw [e]
  refine ⟨by simp [Old], ?_⟩
  simp

set_option maxRecDepth 100000 in
set_option maxHeartbeats 8000000 in
theorem ringWrite_ok (v : Value) (s : Sp) (w : World) (h : Sup (Old w) w v s) (hm : mayS s = true) :
    Calls Try.prog 17 #[v] w fun e w' => ∃ u, e = .returned (.tuple #[u, .int .i64 0]) ∧ rBy (New w.heap.size w') w' [u] (blkS s) ∧ Below w.heap.size w w' := by
  obtain ⟨hr, h40, hall⟩ := mayS_of hm
  obtain ⟨r0, r1⟩ := takB_of hr
  have hchk := Lib.hid (chkS_ok hm)
  have hblk := Lib.hid (blkS_length hm)
  obtain ⟨A, c, rfl, hin, l1, m1, _, hA⟩ := h.open
  have HA := Lib.hid hA
  have HALL := Lib.hid hall
  clear hA hall hr hm
  have hbl := Lib.hid (bodyS_length s)
  obtain ⟨⟨g0, g1⟩, _, ⟨n0, n1⟩, ⟨t0, t1⟩⟩ := hin
  obtain ⟨n, hn⟩ : ∃ n, s.2.2.2.2.length = n := ⟨_, rfl⟩
  obtain ⟨w0, hw0, f1, f2, f3, f4, f5, hs0, hB0, _⟩ := box_five w (.int .u32 s.1) (.int .i64 s.2.1) (.int .u32 s.2.2.1) (.int .u32 s.2.2.2.1) (.slice A s.2.2.2.2.length c) 37
  have H0 := Lib.hid (h.below hB0)
  rw [hn] at l1 h40 f5 H0 hw0 ⊢
  have hu8 : ((UInt8.ofNat n).toNat : Int) = (n : Int) := by
    rw [UInt8.toNat_ofNat']
    omega
  have HU := Lib.hid hu8
  have HWR := Lib.hid (show IntKind.u8.wrap (n : Int) = n by rw [IntKind.wrap_u8']; omega)
  have hhead := Lib.hid (show [le 4 s.1, le 2 s.2.1, le 4 s.2.2.1, le 4 s.2.2.2.1, [UInt8.ofNat n]].flatten = headS s by rw [← hn]; simp [headS])
  replace hn := Lib.hid hn
  have lt0 : w.heap.size < w0.heap.size := by omega
  have HL := Lib.hid lt0
  have HB0 := Lib.hid hB0
  clear hB0 hs0 h hu8
  go_enter Try.func17, Try.ntmps17
  go_upto_region 1 with fail
  clear hw0
  go_wp2_with fail
  with_reducible refine (checkS_any _ s _ H0.out).mono ?_
  rintro e1 w1 ⟨rfl, hb1⟩
  rw [hchk.out]
  have B1 := Lib.hid hb1
  replace f1 := (hb1.cell (p := ⟨w.heap.size, 0, none⟩) lt0).trans f1
  replace f2 := (hb1.cell (p := ⟨w.heap.size, 1, none⟩) lt0).trans f2
  replace f3 := (hb1.cell (p := ⟨w.heap.size, 2, none⟩) lt0).trans f3
  replace f4 := (hb1.cell (p := ⟨w.heap.size, 3, none⟩) lt0).trans f4
  replace f5 := (hb1.cell (p := ⟨w.heap.size, 4, none⟩) lt0).trans f5
  clear hb1 H0
  go_wp2_with fail
  with_reducible refine (two_by s.2.1 (by omega) (by omega) _).mono ?_
  rintro e2 w2 ⟨A2, rfl, y2, hb2⟩
  have lt1 : w.heap.size < w1.heap.size := Nat.lt_of_lt_of_le lt0 B1.out.size
  replace f1 := (hb2.cell (p := ⟨w.heap.size, 0, none⟩) lt1).trans f1
  replace f3 := (hb2.cell (p := ⟨w.heap.size, 2, none⟩) lt1).trans f3
  replace f4 := (hb2.cell (p := ⟨w.heap.size, 3, none⟩) lt1).trans f4
  replace f5 := (hb2.cell (p := ⟨w.heap.size, 4, none⟩) lt1).trans f5
  have B2 := Lib.hid (B1.out.trans (hb2.mono B1.out.size))
  replace y2 := Lib.hid y2
  have lt2 : w.heap.size < w2.heap.size := Nat.lt_of_lt_of_le lt1 hb2.size
  clear f2 hb2
  go_wp2_with fail
  refine wp_region_as (by kernel_rfl) (fun W => Below w2.heap.size w2 W) (fun i => match i with
      | 2 => some (fun v W => rBy (Old W) W [v] (le 4 s.1))
      | 6 => some (fun v W => rBy (Old W) W [v] (le 4 s.2.2.1))
      | 9 => some (fun v W => rBy (Old W) W [v] (le 4 s.2.2.2.1))
      | 14 => some (fun v W => rBy (Old W) W [v] [UInt8.ofNat n])
      | 15 => some (fun v W => rSl 1 rBy (Old W) W [v] [le 4 s.1, le 2 s.2.1, le 4 s.2.2.1, le 4 s.2.2.2.1, [UInt8.ofNat n]])
      | 16 => some (fun v W => W.ownsRow w2.heap.size 5 1 v 15 (u8s (headS s)))
      | _ => none) (by kernel_rfl) (Below.refl _ _).drew (fun w w' h hb => h.trans (hb.mono h.size)) ?tst ?_
  case tst =>
    intro j φ x W W' hp hx hb
    match j, hp with
    | 2, hp => cases hp; exact stab_by.old hx hb
    | 6, hp => cases hp; exact stab_by.old hx hb
    | 9, hp => cases hp; exact stab_by.old hx hb
    | 14, hp => cases hp; exact stab_by.old hx hb
    | 15, hp => cases hp; exact (stab_sl stab_by).old hx hb
    | 16, hp => cases hp; exact own_below hx hb
  repeat (first
    | (refine wpAs_skip rfl ?_; simp only [Act.put, List.setIfInBounds_toArray, List.set_cons_zero, List.set_cons_succ])
    | (refine wpAs_pure (v := ?_) rfl rfl ?_ ?_; rotate_left; (intro W hC hE; clear hE; (have z1 := (hC.cell (p := ⟨w.heap.size, 0, none⟩) lt2).trans f1; have z3 := (hC.cell (p := ⟨w.heap.size, 2, none⟩) lt2).trans f3; have z4 := (hC.cell (p := ⟨w.heap.size, 3, none⟩) lt2).trans f4; have z5 := (hC.cell (p := ⟨w.heap.size, 4, none⟩) lt2).trans f5); clear hC; go_simp; done); simp only [Act.put, List.setIfInBounds_toArray, List.set_cons_zero, List.set_cons_succ])
    | (refine wpAs_pure (v := ?_) rfl rfl ?_ ?_; rotate_left; (intro W hC hE; clear hE; (have z1 := (hC.cell (p := ⟨w.heap.size, 0, none⟩) lt2).trans f1; have z3 := (hC.cell (p := ⟨w.heap.size, 2, none⟩) lt2).trans f3; have z4 := (hC.cell (p := ⟨w.heap.size, 3, none⟩) lt2).trans f4; have z5 := (hC.cell (p := ⟨w.heap.size, 4, none⟩) lt2).trans f5); clear hC; go_simp; with_reducible rfl); simp only [Act.put, List.setIfInBounds_toArray, List.set_cons_zero, List.set_cons_succ]))
  refine wpAs_act rfl rfl ?_ ?_
  · intro W hC hE
    clear hE
    refine does_enter (f := 43) (args := #[.int .u32 s.1]) ?_ ?_
    · go_simp
    · refine (four_by s.1 g0 g1 W).mono ?_
      rintro e W' ⟨_, _, rfl, hy, hb⟩
      exact ⟨_, rfl, hy, hb⟩
  simp only [Act.put, List.setIfInBounds_toArray, List.set_cons_zero, List.set_cons_succ, envAdd]
  intro x28
  repeat (first
    | (refine wpAs_skip rfl ?_; simp only [Act.put, List.setIfInBounds_toArray, List.set_cons_zero, List.set_cons_succ])
    | (refine wpAs_pure (v := ?_) rfl rfl ?_ ?_; rotate_left; (intro W hC hE; clear hE; (have z1 := (hC.cell (p := ⟨w.heap.size, 0, none⟩) lt2).trans f1; have z3 := (hC.cell (p := ⟨w.heap.size, 2, none⟩) lt2).trans f3; have z4 := (hC.cell (p := ⟨w.heap.size, 3, none⟩) lt2).trans f4; have z5 := (hC.cell (p := ⟨w.heap.size, 4, none⟩) lt2).trans f5); clear hC; go_simp; done); simp only [Act.put, List.setIfInBounds_toArray, List.set_cons_zero, List.set_cons_succ])
    | (refine wpAs_pure (v := ?_) rfl rfl ?_ ?_; rotate_left; (intro W hC hE; clear hE; (have z1 := (hC.cell (p := ⟨w.heap.size, 0, none⟩) lt2).trans f1; have z3 := (hC.cell (p := ⟨w.heap.size, 2, none⟩) lt2).trans f3; have z4 := (hC.cell (p := ⟨w.heap.size, 3, none⟩) lt2).trans f4; have z5 := (hC.cell (p := ⟨w.heap.size, 4, none⟩) lt2).trans f5); clear hC; go_simp; with_reducible rfl); simp only [Act.put, List.setIfInBounds_toArray, List.set_cons_zero, List.set_cons_succ]))
  refine wpAs_act rfl rfl ?_ ?_
  · intro W hC hE
    clear hE
    refine does_enter (f := 43) (args := #[.int .u32 s.2.2.1]) ?_ ?_
    · go_simp
    · refine (four_by s.2.2.1 n0 n1 W).mono ?_
      rintro e W' ⟨_, _, rfl, hy, hb⟩
      exact ⟨_, rfl, hy, hb⟩
  simp only [Act.put, List.setIfInBounds_toArray, List.set_cons_zero, List.set_cons_succ, envAdd]
  intro x32
  repeat (first
    | (refine wpAs_skip rfl ?_; simp only [Act.put, List.setIfInBounds_toArray, List.set_cons_zero, List.set_cons_succ])
    | (refine wpAs_pure (v := ?_) rfl rfl ?_ ?_; rotate_left; (intro W hC hE; clear hE; (have z1 := (hC.cell (p := ⟨w.heap.size, 0, none⟩) lt2).trans f1; have z3 := (hC.cell (p := ⟨w.heap.size, 2, none⟩) lt2).trans f3; have z4 := (hC.cell (p := ⟨w.heap.size, 3, none⟩) lt2).trans f4; have z5 := (hC.cell (p := ⟨w.heap.size, 4, none⟩) lt2).trans f5); clear hC; go_simp; done); simp only [Act.put, List.setIfInBounds_toArray, List.set_cons_zero, List.set_cons_succ])
    | (refine wpAs_pure (v := ?_) rfl rfl ?_ ?_; rotate_left; (intro W hC hE; clear hE; (have z1 := (hC.cell (p := ⟨w.heap.size, 0, none⟩) lt2).trans f1; have z3 := (hC.cell (p := ⟨w.heap.size, 2, none⟩) lt2).trans f3; have z4 := (hC.cell (p := ⟨w.heap.size, 3, none⟩) lt2).trans f4; have z5 := (hC.cell (p := ⟨w.heap.size, 4, none⟩) lt2).trans f5); clear hC; go_simp; with_reducible rfl); simp only [Act.put, List.setIfInBounds_toArray, List.set_cons_zero, List.set_cons_succ]))
  refine wpAs_act rfl rfl ?_ ?_
  · intro W hC hE
    clear hE
    refine does_enter (f := 43) (args := #[.int .u32 s.2.2.2.1]) ?_ ?_
    · go_simp
    · refine (four_by s.2.2.2.1 t0 t1 W).mono ?_
      rintro e W' ⟨_, _, rfl, hy, hb⟩
      exact ⟨_, rfl, hy, hb⟩
  simp only [Act.put, List.setIfInBounds_toArray, List.set_cons_zero, List.set_cons_succ, envAdd]
  intro x35
  repeat (first
    | (refine wpAs_skip rfl ?_; simp only [Act.put, List.setIfInBounds_toArray, List.set_cons_zero, List.set_cons_succ])
    | (refine wpAs_pure (v := ?_) rfl rfl ?_ ?_; rotate_left; (intro W hC hE; clear hE; (have hwz := HWR.out; have z1 := (hC.cell (p := ⟨w.heap.size, 0, none⟩) lt2).trans f1; have z3 := (hC.cell (p := ⟨w.heap.size, 2, none⟩) lt2).trans f3; have z4 := (hC.cell (p := ⟨w.heap.size, 3, none⟩) lt2).trans f4; have z5 := (hC.cell (p := ⟨w.heap.size, 4, none⟩) lt2).trans f5); clear hC; go_simp; done); simp only [Act.put, List.setIfInBounds_toArray, List.set_cons_zero, List.set_cons_succ])
    | (refine wpAs_pure (v := ?_) rfl rfl ?_ ?_; rotate_left; (intro W hC hE; clear hE; (have hwz := HWR.out; have z1 := (hC.cell (p := ⟨w.heap.size, 0, none⟩) lt2).trans f1; have z3 := (hC.cell (p := ⟨w.heap.size, 2, none⟩) lt2).trans f3; have z4 := (hC.cell (p := ⟨w.heap.size, 3, none⟩) lt2).trans f4; have z5 := (hC.cell (p := ⟨w.heap.size, 4, none⟩) lt2).trans f5); clear hC; go_simp; with_reducible rfl); simp only [Act.put, List.setIfInBounds_toArray, List.set_cons_zero, List.set_cons_succ]))
  refine wpAs_act rfl rfl ?_ ?_
  · intro W hC hE
    clear hE hC
    have hy2 := Lib.hid (byte_lit W 5 (UInt8.ofNat n) (n : Int) HU.out)
    go_simp
    exact ⟨hy2.out, (Below.refl _ _).alloc (Nat.le_refl _) _⟩
  simp only [Act.put, List.setIfInBounds_toArray, List.set_cons_zero, List.set_cons_succ, envAdd]
  intro x40
  refine wpAs_act rfl rfl ?_ ?_
  · intro W hC hE
    have y40 := hE.1 rfl
    have y35 := hE.2.1 rfl
    have y32 := hE.2.2.1 rfl
    have y28 := hE.2.2.2.1 rfl
    have hl5 := Lib.hid (rows_lit W 40 [x28, .slice A2 2 2, x32, x35, x40] [le 4 s.1, le 2 s.2.1, le 4 s.2.2.1, le 4 s.2.2.2.1, [UInt8.ofNat n]] rfl (by simp) (fun i v x h1 h2 => by
      match i, h1, h2 with
      | 0, h1, h2 => cases h1; cases h2; exact y28
      | 1, h1, h2 => cases h1; cases h2; exact stab_by.old y2.out hC
      | 2, h1, h2 => cases h1; cases h2; exact y32
      | 3, h1, h2 => cases h1; cases h2; exact y35
      | 4, h1, h2 => cases h1; cases h2; exact y40))
    obtain ⟨_, _, rfl, _⟩ := rBy_open y28
    obtain ⟨_, _, rfl, _⟩ := rBy_open y32
    obtain ⟨_, _, rfl, _⟩ := rBy_open y35
    obtain ⟨_, _, rfl, _⟩ := rBy_open y40
    clear hE hC y40 y35 y32 y28
    go_simp
    exact ⟨hl5.out, (Below.refl _ _).alloc (Nat.le_refl _) _⟩
  simp only [Act.put, List.setIfInBounds_toArray, List.set_cons_zero, List.set_cons_succ, envAdd]
  intro x41
  refine wpAs_act rfl rfl ?_ ?_
  · intro W hC hE
    have y41 := hE.1 rfl
    have hlen : lens [le 4 s.1, le 2 s.2.1, le 4 s.2.2.1, le 4 s.2.2.2.1, [UInt8.ofNat n]] = 15 := by
      unfold lens
      rw [hhead.out, headS_length]
    refine does_enter (f := 42) (args := #[x41]) ?_ ?_
    · clear hE hC hlen
      obtain ⟨_, _, e, _⟩ := rows_open y41
      cases e
      clear y41
      go_simp
    · refine (concat_any x41 _ W (by rw [hlen]; omega) y41).mono ?_
      rintro e W' ⟨u, rfl, ho, hb⟩
      rw [hlen, hhead.out] at ho
      exact ⟨_, rfl, own_low ho hC.size, hb⟩
  simp only [Act.put, List.setIfInBounds_toArray, List.set_cons_zero, List.set_cons_succ, envAdd]
  intro x42
  refine wpAs_pure (v := x42) rfl rfl ?_ ?_
  · intro W hC hE
    clear hE hC
    go_simp
  simp only [Act.put, List.setIfInBounds_toArray, List.set_cons_zero, List.set_cons_succ]
  refine wpAs_end fun W hC hE => ?_
  have o42 := Lib.hid hE.1
  clear hE
  replace f5 := (hC.cell (p := ⟨w.heap.size, 4, none⟩) lt2).trans f5
  have L9 := Lib.hid hC.size
  have BW := Lib.hid (B2.out.trans (hC.mono B2.out.size))
  have lo2 := Lib.hid (Nat.le_trans HB0.out.size B2.out.size)
  clear f1 f3 f4 hC y2 lt1 lt2 B1 lt0
  go_wp2_with fail
  go_loopw [46, 7] (fun i u wr => ∃ k : Nat, k ≤ n ∧ i = .int .i64 k ∧ wr.ownsRow w2.heap.size 5 1 u (15 + 2 * k) (u8s (headS s ++ twos (s.2.2.2.2.take k))) ∧ Below w0.heap.size w0 wr ∧ w2.heap.size ≤ wr.heap.size) (fun i _ _ => n - (intOf i).toNat)
  case atStart => exact ⟨0, by omega, rfl, by simpa [twos] using o42.out, BW.out, L9.out⟩
  case round =>
    clear f5 o42
    obtain ⟨k, hk, rfl, hown, hB, h2⟩ := hrel
    have B := Lib.hid hB
    have L2 := Lib.hid h2
    by_cases hlt : k < n
    · obtain ⟨x, hx⟩ : ∃ x, s.2.2.2.2[k]? = some x := ⟨_, List.getElem?_eq_getElem (by rw [hn.out]; exact hlt)⟩
      obtain ⟨ad, rfl, hok, hc, _⟩ := HA.out k x hx
      have hc' := ((HB0.out.trans (hB.mono HB0.out.size)).cell hok).trans hc
      obtain ⟨x0, x1⟩ := takB_of (all_at HALL.out hx)
      have htk := Lib.hid (show twos (s.2.2.2.2.take (k + 1)) = twos (s.2.2.2.2.take k) ++ le 2 x by rw [List.take_add_one, hx, Option.toList_some, twos_snoc])
      replace hx := Lib.hid hx
      have hown' := Lib.hid hown
      clear hc hB hown h2
      go_wp2_with fail
      with_reducible refine (two_by x (by omega) (by omega) _).mono ?_
      rintro e2 wx ⟨A2, rfl, y2, hb2⟩
      obtain ⟨_, _, e, _, _, hy2⟩ := rBy_byt (B := wx.heap.size) (fun p hp => hp) y2
      cases e
      obtain ⟨v3, w3, hr3, o3, ba3⟩ := app_own_byt _ (15 + 2 * k) 2 2 _ _ A2 w2.heap.size wx (own_below hown'.out hb2) hy2 (le_length _ _) (by omega) (Nat.le_trans L2.out hb2.size)
      have B3 := Lib.hid ((B.out.trans (hb2.mono B.out.size)).trans (ba3.mono B2.out.size))
      have L3 := Lib.hid (Nat.le_trans (Nat.le_trans L2.out hb2.size) ba3.size)
      have H3 := Lib.hid hr3
      replace o3 := Lib.hid o3
      clear hr3 ba3 y2 hy2 hb2
      go_wp2_with (at_builtin; refine wpList_append_run rfl _ _ _ rfl rfl rfl H3.out ?_; clear H3)
      go_roundw
      case rel => exact ⟨k + 1, by omega, by go_num, by rw [htk.out, ← List.append_assoc, show 15 + 2 * (k + 1) = 15 + 2 * k + 2 by omega]; exact o3.out, B3.out, L3.out⟩
      case measure => simp [intOf]; omega
    · have hge : n ≤ k := by omega
      have hkn := Lib.hid (show k = n by omega)
      obtain ⟨G, cg, rfl, hlc2, hc2, hy⟩ := own_byt hown
      have htl : s.2.2.2.2.take k = s.2.2.2.2 := List.take_of_length_le (by rw [hn.out]; exact hge)
      rw [htl] at hy hown
      have hbody : headS s ++ twos s.2.2.2.2 = bodyS s := rfl
      rw [hbody] at hy hown
      have hlen := Lib.hid (show (bodyS s).length = 15 + 2 * k by rw [hbl.out, hn.out, hkn.out])
      have hcap : 15 + 2 * k ≤ cg := hlc2
      have hy' := Lib.hid hy
      clear hown hy htl hbody hB h2
      go_wp2_with fail
      refine (seal_ok G (15 + 2 * k) cg (bodyS s) hlen (by omega) hcap hc2 _ hy'.out).mono ?_
      rintro e4 w4 ⟨rfl, o4, hb4⟩
      have BR := Nat.le_trans HB0.out.size B.out.size
      have BF := Lib.hid ((HB0.out.trans (B.out.mono HB0.out.size)).trans (hb4.mono BR))
      have O4 : Hid (rBy (New w.heap.size w4) w4 [.slice (some ⟨wr.heap.size, 0, none⟩) 128 128] (blkS s)) := Lib.hid (by
        have hl := hblk.out
        have h1 := Row.own (B := w.heap.size) o4 BR (by rw [show sealN (bodyS s) = blkS s from rfl, hl]; omega)
        rw [show sealN (bodyS s) = blkS s from rfl, hl] at h1
        rw [← hl] at h1
        have h2 := own_by h1
        rwa [hl] at h2)
      clear o4 hb4 BR
      go_wp2_with fail
      go_ret2
      exact ⟨_, rfl, O4.out, BF.out⟩
end Go.Proofs.Ytdcgcnnofjekaaa

/-
  Package ring: Write of any superblock, deadOf, fields, Read; cmp.Or. Conditions: those that each lemma states.
-/
namespace Go.Proofs.Ytdcgcnnofjekaaa
open Go.RowKit

theorem put_five {W : World} {g : Nat} {a b c d e u0 u1 u2 u3 u4 : Value} {t : TypeId} (h : W.heap[g]? = some (.cells #[a, b, c, d, e] t (0, 0))) : ∃ W1, ((((W.setCell ⟨g, 0, none⟩ u0).setCell ⟨g, 1, none⟩ u1).setCell ⟨g, 2, none⟩ u2).setCell ⟨g, 3, none⟩ u3).setCell ⟨g, 4, none⟩ u4 = W1 ∧
    W1.heap[g]? = some (.cells #[u0, u1, u2, u3, u4] t (0, 0)) ∧ W.grownBy W1 (some g) ∧ W1.heap.size = W.heap.size :=
  ⟨_, rfl, by simp [World.setCell, Array.getElem?_modify, h], grow_put (p := ⟨g, 4, none⟩) (grow_put (p := ⟨g, 3, none⟩) (grow_put (p := ⟨g, 2, none⟩) (grow_put (p := ⟨g, 1, none⟩) (grow_put (p := ⟨g, 0, none⟩) (grow_refl W (some g)) rfl u0) rfl u1) rfl u2) rfl u3) rfl u4, by simp⟩
theorem five_cells {W : World} {g : Nat} {a b c d e : Value} {t : TypeId} (h : W.heap[g]? = some (.cells #[a, b, c, d, e] t (0, 0))) : W.cell? ⟨g, 0, none⟩ = some a ∧ W.cell? ⟨g, 1, none⟩ = some b ∧ W.cell? ⟨g, 2, none⟩ = some c ∧ W.cell? ⟨g, 3, none⟩ = some d ∧ W.cell? ⟨g, 4, none⟩ = some e ∧ (∀ o, W.frozen? ⟨g, o, none⟩ = false) ∧ g < W.heap.size :=
  ⟨by simp [World.cell?, h], by simp [World.cell?, h], by simp [World.cell?, h], by simp [World.cell?, h], by simp [World.cell?, h], fun o => by simp [World.frozen?, h], (Array.getElem?_eq_some_iff.1 h).1⟩

theorem ringWrite_any (v : Value) (s : Sp) (w : World) (h : Sup (Old w) w v s) :
    Calls Try.prog 17 #[v] w fun e w' => ∃ u, e = .returned (.tuple #[u, .int .i64 (chkS s)]) ∧ rBy (New w.heap.size w') w' [u] (wrS s) ∧ Below w.heap.size w w' := by
  cases hm : mayS s with
  | true =>
    rw [chkS_ok hm, show wrS s = blkS s by simp [wrS, hm]]
    exact ringWrite_ok v s w h hm
  | false =>
    rw [chkS_bad hm, show wrS s = [] by simp [wrS, hm]]
    have hchk := Lib.hid (chkS_bad hm)
    replace hm := Lib.hid hm
    obtain ⟨A, c, rfl, _⟩ := h.open
    obtain ⟨w0, hw0, f1, f2, f3, f4, f5, hs0, hB0, _⟩ := box_five w (.int .u32 s.1) (.int .i64 s.2.1) (.int .u32 s.2.2.1) (.int .u32 s.2.2.2.1) (.slice A s.2.2.2.2.length c) 37
    have H0 := Lib.hid (h.below hB0)
    have HB0 := Lib.hid hB0
    clear hB0 hs0 h
    go_enter Try.func17, Try.ntmps17
    go_upto_region 1 with fail
    clear hw0
    go_wp2_with fail
    with_reducible refine (checkS_any _ s _ H0.out).mono ?_
    rintro e1 w1 ⟨rfl, hb1⟩
    rw [hchk.out]
    have BF := Lib.hid (HB0.out.trans (hb1.mono HB0.out.size))
    clear hb1
    go_wp2_with fail
    go_ret2
    exact ⟨_, rfl, rBy_nil_new _ _, BF.out⟩

/-! ### The numbers that wait, as bytes tell them -/
def deadN (body : List UInt8) (k : Nat) : List Int := (List.range k).map fun i : Nat => gv 2 body (15 + 2 * (i : Int))
theorem deadN_length (body : List UInt8) (k : Nat) : (deadN body k).length = k := by simp [deadN]
theorem deadN_succ (body : List UInt8) (k : Nat) : deadN body (k + 1) = deadN body k ++ [gv 2 body (15 + 2 * (k : Int))] := by simp [deadN, List.range_succ]
def cntN (body : List UInt8) : Nat := (body[14]?.getD 0).toNat
theorem cntN_lt (body : List UInt8) : cntN body < 256 := (body[14]?.getD 0).toNat_lt
theorem int_info0 : (Try.prog.info? 3).map (fun i => (i.zero, i.size, i.bytes)) = some (some (.int .i64 0), 1, 8) := by kernel_rfl
theorem rI64_mk {ok : Addr → Prop} {w : World} {n : Int} (h : In64 n) : rK .i64 ok w [.int .i64 n] n := ⟨rfl, by simpa [IntKind.min, IntKind.signed, IntKind.bits] using h.1, by simpa [IntKind.max, IntKind.signed, IntKind.bits] using h.2⟩
theorem ints_push {w : World} {lo : Nat} {A : Option Addr} {c : Nat} {xs : List Int} (h : RowOf (rK .i64) 1 3 lo w A c xs) (g : Nat) (n : Int) (m : Nat) (hg : w.heap[g]? = some (.cells #[.int .i64 n] 3 (0, 0))) (hs : xs.length < 100000) (hbase : lo ≤ w.heap.size) (hn : In64 n) :
    ∃ A' c' w', (Builtin.append_ #[35, 35] 35 #[.slice A xs.length c, .slice (some ⟨g, 0, none⟩) 1 m]).run Try.prog w = .ok (.slice A' (xs.length + 1) c') w' ∧ RowOf (rK .i64) 1 3 lo w' A' c' (xs ++ [n]) ∧ w.grownBy w' (A.map (·.block)) ∧ Below lo w w' := by
  obtain ⟨i0, hi, hz0, hz1, hz2⟩ := info_parts int_info0
  exact RowOf.push (stab_k _) h 35 35 i0 (.int .i64 0) 8 Try.underlying35 hi hz0 hz1 hz2 rfl (by decide) ⟨g, 0, none⟩ m _ n rfl (World.news_of_block (cs := #[.int .i64 n]) hg) (fun u hu => by
    simp at hu
    subst hu
    rfl) (by unfold maxLen; omega) (by omega) hbase (rI64_mk hn)

def deadE (k : Nat) : Int := if k ≤ 54 then 0 else 8
def deadV (body : List UInt8) : List Int := if cntN body ≤ 54 then deadN body (cntN body) else []
theorem gv2_in (body : List UInt8) (k : Int) : In64 (gv 2 body k) := by
  have := gv_bounds 2 body k
  exact ⟨by omega, by omega⟩
theorem gv4_in (body : List UInt8) (k : Int) : InU (gv 4 body k) := by
  have := gv_bounds 4 body k
  exact ⟨by omega, by omega⟩

set_option maxRecDepth 100000 in
set_option maxHeartbeats 4000000 in
theorem deadOf_any (v : Value) (body : List UInt8) (hl : body.length = 124) (w : World) (h : rBy (Old w) w [v] body) :
    Calls Try.prog 68 #[v] w fun e w' => ∃ u, e = .returned (.tuple #[u, .int .i64 (deadE (cntN body))]) ∧ rInts (New w.heap.size w') w' [u] (deadV body) ∧ Below w.heap.size w w' := by
  obtain ⟨A, c, rfl, l1, m1, hy⟩ := rBy_byt (B := w.heap.size) (fun p hp => hp) h
  rw [hl] at l1 ⊢
  obtain ⟨ad, rfl, hb, hc⟩ := hy (by omega)
  have h14 : w.cell? ⟨ad.block, ad.off + 14, none⟩ = some (.int .u8 (cntN body : Int)) := by have := hc 14 (by omega); simpa [Addr.add, cntN] using this
  have hcn := cntN_lt body
  obtain ⟨n, hn⟩ : ∃ n, cntN body = n := ⟨_, rfl⟩
  rw [hn] at h14 hcn ⊢
  have HV := Lib.hid (show deadV body = if n ≤ 54 then deadN body n else [] by rw [← hn]; rfl)
  replace hn := Lib.hid hn
  have HL := Lib.hid hl
  have HY := Lib.hid hy
  clear hy hc h hl
  go_enter Try.func68, Try.ntmps68
  go_wp2_with fail
  go_loopw [12, 4] (fun i u wr => ∃ j : Nat, j ≤ n ∧ j ≤ 54 ∧ i = .int .i64 j ∧ Below w.heap.size w wr ∧ ∃ (A1 : Option Addr) (c1 : Nat), u = .slice A1 j c1 ∧ RowOf (rK .i64) 1 3 w.heap.size wr A1 c1 (deadN body j)) (fun i _ _ => n - (intOf i).toNat)
  case atStart => exact ⟨0, by omega, by omega, rfl, Below.refl _ _, none, 0, rfl, RowOf.nil _ _ _ _ _⟩
  case round =>
    obtain ⟨j, hj, hj54, rfl, hB, A1, c1, rfl, hrow⟩ := hrel
    have B := Lib.hid hB
    replace hrow := Lib.hid hrow
    have hy := (HY.out.below hB).more hB.size
    have HY2 := Lib.hid hy
    clear hy hB
    by_cases hlt : j < n
    · by_cases h54 : j < 54
      · have hge := Lib.hid (show ge 2 124 (15 + 2 * (j : Int)) = 0 from ge_yes ⟨by omega, by omega⟩)
        have hin := Lib.hid (gv2_in body (15 + 2 * (j : Int)))
        have hsu := Lib.hid (deadN_succ body j)
        have hdl := Lib.hid (deadN_length body j)
        go_wp2_with fail
        with_reducible refine (getTwo_any _ 124 c (15 + 2 * (j : Int)) body HL l1 m1 _ HY2.out).mono ?_
        rintro e1 w1 ⟨rfl, hb1⟩
        rw [hge.out]
        obtain ⟨x, hx⟩ : ∃ x, gv 2 body (15 + 2 * (j : Int)) = x := ⟨_, rfl⟩
        rw [hx] at hin hsu ⊢
        replace hx := Lib.hid hx
        obtain ⟨w8, hw8, hs8⟩ : ∃ w8, w1.alloc (.cells #[.int .i64 x] 3) = w8 ∧ w8.heap[w1.heap.size]? = some (.cells #[.int .i64 x] 3 (0, 0)) := ⟨_, rfl, heap_alloc_new _ _⟩
        have b8 : Below w1.heap.size w1 w8 := by rw [← hw8]; exact (Below.refl _ _).alloc (Nat.le_refl _) _
        have row8 := ((hrow.out.below (stab_k _) hb1).below (stab_k _) b8)
        obtain ⟨A2, c2, w9, hr9, row9, _, ba9⟩ := ints_push row8 w1.heap.size x 1 hs8 (by rw [hdl.out]; omega) (Nat.le_trans B.out.size (Nat.le_trans hb1.size b8.size)) hin.out
        rw [hdl.out] at hr9
        have B9 := Lib.hid (((B.out.trans (hb1.mono B.out.size)).trans (b8.mono (Nat.le_trans B.out.size hb1.size))).trans ba9)
        have H9 := Lib.hid hr9
        replace row9 := Lib.hid row9
        replace hs8 := Lib.hid hs8
        clear hb1 b8 row8 hr9 ba9
        go_wp2_with (at_builtin; refine wpList_append_run rfl _ _ _ rfl rfl rfl H9.out ?_; clear H9)
        go_roundw
        case rel => exact ⟨j + 1, by omega, by omega, by go_num, B9.out, A2, c2, rfl, by rw [hsu.out]; exact row9.out⟩
        case measure => simp [intOf]; omega
      · have h54e : j = 54 := by omega
        have hge := Lib.hid (show ge 2 124 (15 + 2 * (j : Int)) = 8 from ge_no (by omega))
        have hde : Hid (deadE n = 8 ∧ deadV body = []) := Lib.hid (by
          have h1 : ¬ n ≤ 54 := by omega
          exact ⟨by simp [deadE, h1], by rw [HV.out]; simp [h1]⟩)
        replace h54e := Lib.hid h54e
        go_wp2_with fail
        with_reducible refine (getTwo_any _ 124 c (15 + 2 * (j : Int)) body HL l1 m1 _ HY2.out).mono ?_
        rintro e1 w1 ⟨rfl, hb1⟩
        rw [hge.out]
        have BF := Lib.hid (B.out.trans (hb1.mono B.out.size))
        clear hb1
        go_wp2_with fail
        go_ret2
        exact ⟨.slice none 0 0, ret_two hde.out.1.symm, by rw [hde.out.2]; exact rInts_none _ _, BF.out⟩
    · have hjn := Lib.hid (show j = n by omega)
      have hnle : n ≤ 54 := by omega
      have hde : Hid (deadE n = 0 ∧ deadV body = deadN body j) := Lib.hid ⟨by simp [deadE, hnle], by rw [HV.out, hjn.out]; simp [hnle]⟩
      have hdl := Lib.hid (deadN_length body j)
      go_wp2_with fail
      go_ret2
      refine ⟨_, ret_two hde.out.1.symm, ?_, B.out⟩
      rw [hde.out.2]
      have := hrow.out.rel (stab_k _)
      rw [hdl.out] at this
      exact this

/-! ### The first that is no nought -/
def orN (xs : List Int) : Int := (xs.find? fun x => x != 0).getD 0
theorem orN_take {xs : List Int} {k : Nat} {x : Int} (h : ∀ y ∈ xs.take k, y = 0) (hx : xs[k]? = some x) (h0 : x ≠ 0) : orN xs = x := by
  have e : xs = xs.take k ++ x :: xs.drop (k + 1) := by
    have hk := (List.getElem?_eq_some_iff.1 hx)
    obtain ⟨hk1, hk2⟩ := hk
    rw [← hk2, ← List.drop_eq_getElem_cons hk1, List.take_append_drop]
  unfold orN
  rw [e, List.find?_append, List.find?_eq_none.2 (by intro y hy; simp [h y hy])]
  simp [h0]
theorem orN_zero {xs : List Int} (h : ∀ y ∈ xs, y = 0) : orN xs = 0 := by
  unfold orN
  rw [List.find?_eq_none.2 (by intro y hy; simp [h y hy])]
  rfl
set_option maxRecDepth 100000 in
set_option maxHeartbeats 2000000 in
theorem or_any (v : Value) (xs : List Int) (w : World) (h : rInts (Old w) w [v] xs) :
    Calls Try.prog 69 #[v] w fun e w' => e = .returned (.int .i64 (orN xs)) ∧ w = w' := by
  obtain ⟨A, c, rfl, l1, m1, hA⟩ := rInts_open h
  have HA := Lib.hid hA
  clear hA h
  obtain ⟨n, hn⟩ : ∃ n, xs.length = n := ⟨_, rfl⟩
  rw [hn] at l1 ⊢
  replace hn := Lib.hid hn
  go_enter Try.func69, Try.ntmps69
  go_wp2_with fail
  go_loop [8] (fun i => ∃ k : Nat, k ≤ n ∧ i = .int .i64 k ∧ ∀ y ∈ xs.take k, y = 0) (fun i => n - (intOf i).toNat)
  case atStart => exact ⟨0, by omega, rfl, fun y hy => by simp at hy⟩
  case round =>
    obtain ⟨k, hk, rfl, ha⟩ := hrel
    replace ha := Lib.hid ha
    by_cases hlt : k < n
    · obtain ⟨x, hx⟩ : ∃ x, xs[k]? = some x := ⟨_, List.getElem?_eq_getElem (by rw [hn.out]; exact hlt)⟩
      obtain ⟨ad, rfl, hok, hc, _⟩ := HA.out k x hx
      replace hx := Lib.hid hx
      by_cases e : x = 0
      · have he : (x != 0) = false := by simpa using e
        replace e := Lib.hid e
        go_wp2_with fail
        go_round
        case rel => exact ⟨k + 1, by omega, by go_num, fun y hy => by
          rw [List.take_add_one, hx.out] at hy
          simp at hy
          rcases hy with hy | hy
          · exact ha.out y hy
          · rw [hy]; exact e.out⟩
        case measure => simp [intOf]; omega
      · have he : (x != 0) = true := by simpa using e
        have hor := Lib.hid (orN_take ha.out hx.out e)
        clear e
        go_wp2_with fail
        go_ret
        exact ⟨ret_int hor.out.symm, rfl⟩
    · have hge : n ≤ k := by omega
      have hor : Hid (orN xs = 0) := Lib.hid (orN_zero (by
        have := ha.out
        rwa [List.take_of_length_le (by rw [hn.out]; exact hge)] at this))
      go_wp2_with fail
      go_ret
      exact ⟨ret_int hor.out.symm, rfl⟩
/-- A literal row of numbers. -/
theorem ints_lit (w : World) (t : TypeId) (xs : List Int) (cs : Array Value) (hc : cs.toList = xs.map fun x => Value.int .i64 x) (hb : xs.length ≤ 1000) (h : ∀ x ∈ xs, In64 x) :
    rInts (Old (w.alloc (.cells cs t))) (w.alloc (.cells cs t)) [.slice (some ⟨w.heap.size, 0, none⟩) xs.length xs.length] xs := by
  refine ⟨_, _, rfl, Nat.le_refl _, by omega, fun i x hi => ?_⟩
  refine ⟨_, [.int .i64 x], rfl, rfl, fun j v hj => ?_, rI64_mk (h x (List.mem_of_getElem? hi))⟩
  have hj0 : j = 0 := by
    have := (List.getElem?_eq_some_iff.1 hj).1
    simp at this
    omega
  subst hj0
  cases hj
  have e : (⟨w.heap.size, 0, none⟩ : Addr).add (i * 1 + 0) = ⟨w.heap.size, i, none⟩ := by rw [add_off]; simp
  rw [e]
  have hci : cs[i]? = some (.int .i64 x) := by rw [← Array.getElem?_toList, hc, List.getElem?_map, hi]; rfl
  refine ⟨by simp [Old], ?_⟩
  rw [← hci]
  simp
end Go.Proofs.Ytdcgcnnofjekaaa

/-
  Package ring: fields, Read. Conditions: those that each lemma states.
-/
namespace Go.Proofs.Ytdcgcnnofjekaaa
open Go.RowKit

def zeroSp : Sp := (0, 0, 0, 0, [])
def fieldsS (body : List UInt8) : Sp := (gv 4 body 0, gv 2 body 4, gv 4 body 6, gv 4 body 10, deadV body)
def fieldsR (body : List UInt8) : Sp := if cntN body ≤ 54 then fieldsS body else zeroSp
theorem inSp_zero : InSp zeroSp := ⟨⟨by decide, by decide⟩, ⟨by decide, by decide⟩, ⟨by decide, by decide⟩, ⟨by decide, by decide⟩⟩
theorem inSp_fields (body : List UInt8) : InSp (fieldsS body) := ⟨gv4_in _ _, gv2_in _ _, gv4_in _ _, gv4_in _ _⟩
theorem sup_zero (ok : Addr → Prop) (w : World) : Sup ok w (.agg #[.int .u32 0, .int .i64 0, .int .u32 0, .int .u32 0, .slice none 0 0]) zeroSp := ⟨_, rfl, inSp_zero, rInts_none _ _⟩
theorem ge_in {m : Nat} {k : Int} (h0 : 0 ≤ k) (h1 : k + m ≤ 124) : ge m 124 k = 0 := ge_yes ⟨h0, by omega⟩
theorem orN_five (e : Int) : orN [0, 0, 0, 0, e] = e := by
  unfold orN
  by_cases h : e = 0
  · subst h; rfl
  · simp [h]
theorem deadE_in (k : Nat) : In64 (deadE k) := by
  unfold deadE
  split <;> exact ⟨by decide, by decide⟩
theorem Sup.grown {w w' : World} {lo : Nat} {v : Value} {s : Sp} {row : Option Nat} (h : Sup (New lo w) w v s) (hg : w.grownBy w' row) (hr : ∀ q, row = some q → q < lo) : Sup (New lo w') w' v s := by
  obtain ⟨d, e, h1, h2⟩ := h
  exact ⟨d, e, h1, stab_ints.grown h2 hg hr⟩

set_option maxRecDepth 100000 in
set_option maxHeartbeats 4000000 in
theorem fields_any (v : Value) (body : List UInt8) (hl : body.length = 124) (w : World) (h : rBy (Old w) w [v] body) :
    Calls Try.prog 38 #[v] w fun e w' => ∃ u, e = .returned (.tuple #[u, .int .i64 (deadE (cntN body))]) ∧ Sup (New w.heap.size w') w' u (fieldsR body) ∧ Below w.heap.size w w' := by
  obtain ⟨A, c, rfl, l1, m1, hy⟩ := rBy_byt (B := w.heap.size) (fun p hp => hp) h
  rw [hl] at l1 h ⊢
  obtain ⟨w0, hw0, _, _, _, _, _, hs0, hB0, b0⟩ := box_five w (.int .u32 0) (.int .i64 0) (.int .u32 0) (.int .u32 0) (.slice none 0 0) 37
  have lt0 : w.heap.size < w0.heap.size := by omega
  have HL := Lib.hid hl
  have HY := Lib.hid hy
  have HV := Lib.hid h
  have HB0 := Lib.hid hB0
  replace b0 := Lib.hid b0
  replace hw0 := Lib.hid hw0
  have e0 := Lib.hid (ge_in (m := 4) (k := 0) (by omega) (by omega))
  have e1 := Lib.hid (ge_in (m := 2) (k := 4) (by omega) (by omega))
  have e2 := Lib.hid (ge_in (m := 4) (k := 6) (by omega) (by omega))
  have e3 := Lib.hid (ge_in (m := 4) (k := 10) (by omega) (by omega))
  have hin := Lib.hid (inSp_fields body)
  obtain ⟨x0, hx0⟩ : ∃ x, gv 4 body 0 = x := ⟨_, rfl⟩
  obtain ⟨x1, hx1⟩ : ∃ x, gv 2 body 4 = x := ⟨_, rfl⟩
  obtain ⟨x2, hx2⟩ : ∃ x, gv 4 body 6 = x := ⟨_, rfl⟩
  obtain ⟨x3, hx3⟩ : ∃ x, gv 4 body 10 = x := ⟨_, rfl⟩
  obtain ⟨n, hn⟩ : ∃ n, cntN body = n := ⟨_, rfl⟩
  obtain ⟨d, hd⟩ : ∃ d, deadV body = d := ⟨_, rfl⟩
  have hF := Lib.hid (show fieldsS body = (x0, x1, x2, x3, d) by rw [← hx0, ← hx1, ← hx2, ← hx3, ← hd]; rfl)
  rw [hn]
  have hR := Lib.hid (show fieldsR body = if n ≤ 54 then fieldsS body else zeroSp by rw [← hn]; rfl)
  replace hx0 := Lib.hid hx0
  replace hx1 := Lib.hid hx1
  replace hx2 := Lib.hid hx2
  replace hx3 := Lib.hid hx3
  replace hn := Lib.hid hn
  replace hd := Lib.hid hd
  clear hB0 hs0 h hy hl
  go_enter Try.func38, Try.ntmps38
  go_upto_region 1 with fail
  rw [hw0.out]
  clear hw0
  go_wp2_with fail
  with_reducible refine (getFour_any _ 124 c 0 body HL l1 m1 _ ((HY.out.below HB0.out).more HB0.out.size)).mono ?_
  rintro f1 w1 ⟨rfl, hb1⟩
  rw [e0.out, hx0.out]
  have B1 := Lib.hid (HB0.out.trans (hb1.mono HB0.out.size))
  have C1 := Lib.hid hb1
  clear hb1
  go_wp2_with fail
  with_reducible refine (getTwo_any _ 124 c 4 body HL l1 m1 _ ((HY.out.below B1.out).more B1.out.size)).mono ?_
  rintro f2 w2 ⟨rfl, hb2⟩
  rw [e1.out, hx1.out]
  have B2 := Lib.hid (B1.out.trans (hb2.mono B1.out.size))
  have C2 := Lib.hid (C1.out.trans (hb2.mono C1.out.size))
  clear hb2
  go_wp2_with fail
  with_reducible refine (getFour_any _ 124 c 6 body HL l1 m1 _ ((HY.out.below B2.out).more B2.out.size)).mono ?_
  rintro f3 w3 ⟨rfl, hb3⟩
  rw [e2.out, hx2.out]
  have B3 := Lib.hid (B2.out.trans (hb3.mono B2.out.size))
  have C3 := Lib.hid (C2.out.trans (hb3.mono C2.out.size))
  clear hb3
  go_wp2_with fail
  with_reducible refine (getFour_any _ 124 c 10 body HL l1 m1 _ ((HY.out.below B3.out).more B3.out.size)).mono ?_
  rintro f4 w4 ⟨rfl, hb4⟩
  rw [e3.out, hx3.out]
  have B4 := Lib.hid (B3.out.trans (hb4.mono B3.out.size))
  have C4 := Lib.hid (C3.out.trans (hb4.mono C3.out.size))
  clear hb4
  go_wp2_with fail
  with_reducible refine (deadOf_any _ body HL.out _ (stab_by.old HV.out B4.out)).mono ?_
  rintro f5 w5 ⟨u, rfl, hu, hb5⟩
  rw [hn.out]
  rw [hd.out] at hu
  have B5 := Lib.hid (B4.out.trans (hb5.mono B4.out.size))
  have C5 := Lib.hid (C4.out.trans (hb5.mono C4.out.size))
  have lt4 := Lib.hid (Nat.lt_of_lt_of_le lt0 C4.out.size)
  obtain ⟨D, dc, rfl, _⟩ := id (rInts_open hu)
  have hdi := Lib.hid (deadE_in n)
  obtain ⟨q, hq⟩ : ∃ q, deadE n = q := ⟨_, rfl⟩
  have hor := Lib.hid (orN_five q)
  rw [hq] at hdi ⊢
  obtain ⟨w6, hw6, h6⟩ : ∃ w6, w5.alloc (.cells #[.int .i64 0, .int .i64 0, .int .i64 0, .int .i64 0, .int .i64 q] 24) = w6 ∧ rInts (Old w6) w6 [.slice (some ⟨w5.heap.size, 0, none⟩) 5 5] [0, 0, 0, 0, q] :=
    ⟨_, rfl, ints_lit w5 24 [0, 0, 0, 0, q] _ rfl (by simp) (fun x hx => by
      simp at hx
      rcases hx with rfl | rfl
      · exact ⟨by decide, by decide⟩
      · exact hdi.out)⟩
  have b6 : Below w5.heap.size w5 w6 := by rw [← hw6]; exact (Below.refl _ _).alloc (Nat.le_refl _) _
  have B6 := Lib.hid (B5.out.trans (b6.mono B5.out.size))
  have C6 := Lib.hid (C5.out.trans (b6.mono C5.out.size))
  have hu6 := Lib.hid (stab_ints.new hu (Nat.le_refl _) b6)
  replace h6 := Lib.hid h6
  replace hq := Lib.hid hq
  clear hb5 b6 hu
  go_wp2_with fail
  with_reducible refine (or_any _ [0, 0, 0, 0, q] _ h6.out).mono ?_
  rintro f7 w7 ⟨rfl, rfl⟩
  rw [hor.out]
  clear hw6
  have b9 := (C6.out.block w.heap.size lt0).trans b0.out
  by_cases h54 : n ≤ 54
  · have hq0 : q = 0 := by rw [← hq.out]; simp [deadE, h54]
    subst hq0
    obtain ⟨W9, hW9, g9, gr9, gs9⟩ := put_five (u0 := .int .u32 x0) (u1 := .int .i64 x1) (u2 := .int .u32 x2) (u3 := .int .u32 x3) (u4 := .slice D d.length dc) b9
    obtain ⟨k0, k1, k2, k3, k4, _, _⟩ := five_cells g9
    obtain ⟨a0, a1, a2, a3, a4, af, _⟩ := five_cells b9
    have B9 := Lib.hid (B6.out.grown gr9 B6.out.size (fun q e => by cases e; omega))
    have hfin : Hid (Sup (New w.heap.size W9) W9 (.agg #[.int .u32 x0, .int .i64 x1, .int .u32 x2, .int .u32 x3, .slice D d.length dc]) (fieldsR body)) := Lib.hid (by
      have h1 : fieldsR body = (x0, x1, x2, x3, d) := by rw [hR.out, if_pos h54, hF.out]
      have h2 := hin.out
      rw [hF.out] at h2
      rw [h1]
      exact ⟨_, rfl, h2, stab_ints.mono (stab_ints.grown hu6.out gr9 (fun q e => by cases e; exact lt4.out)) (Nat.le_of_lt lt4.out)⟩)
    replace b9 := Lib.hid b9
    clear g9 gr9
    go_wp2_with fail
    exact bodyPost_ret (v := .tuple #[.agg #[.int .u32 x0, .int .i64 x1, .int .u32 x2, .int .u32 x3, .slice D d.length dc], .int .i64 0]) (by simp [results, Try.results38, go_sem, k0, k1, k2, k3, k4]) rfl ⟨_, ret_two hq.out.symm, hfin.out, B9.out⟩
  · have hq8 : q = 8 := by rw [← hq.out]; simp [deadE, h54]
    subst hq8
    obtain ⟨W9, hW9, g9, gr9, gs9⟩ := put_five (u0 := .int .u32 0) (u1 := .int .i64 0) (u2 := .int .u32 0) (u3 := .int .u32 0) (u4 := .slice none 0 0) b9
    obtain ⟨k0, k1, k2, k3, k4, _, _⟩ := five_cells g9
    obtain ⟨a0, a1, a2, a3, a4, af, _⟩ := five_cells b9
    have B9 := Lib.hid (B6.out.grown gr9 B6.out.size (fun q e => by cases e; omega))
    have hfin : Hid (Sup (New w.heap.size W9) W9 (.agg #[.int .u32 0, .int .i64 0, .int .u32 0, .int .u32 0, .slice none 0 0]) (fieldsR body)) := Lib.hid (by
      have h1 : fieldsR body = zeroSp := by rw [hR.out, if_neg h54]
      rw [h1]
      exact sup_zero _ _)
    replace b9 := Lib.hid b9
    clear g9 gr9
    go_wp2_with fail
    exact bodyPost_ret (v := .tuple #[.agg #[.int .u32 0, .int .i64 0, .int .u32 0, .int .u32 0, .slice none 0 0], .int .i64 8]) (by simp [results, Try.results38, go_sem, k0, k1, k2, k3, k4]) rfl ⟨_, ret_two hq.out.symm, hfin.out, B9.out⟩
end Go.Proofs.Ytdcgcnnofjekaaa

/-
  Package ring: Read. Conditions: those that each lemma states.
-/
namespace Go.Proofs.Ytdcgcnnofjekaaa
open Go.RowKit

noncomputable def okRe (b : List UInt8) : Bool := decide (cntN (ob b) ≤ 40) && mayS (fieldsS (ob b)) && decide (blkS (fieldsS (ob b)) = b)
noncomputable def reE (b : List UInt8) : Int := if oe b = 0 then (if okRe b then 0 else 8) else oe b
noncomputable def reS (b : List UInt8) : Sp := if oe b = 0 then (if okRe b then fieldsS (ob b) else zeroSp) else zeroSp
theorem oe_zero {b : List UInt8} (h : oe b = 0) : b.length = 128 ∧ fits b ∧ ob b = b.drop 4 ∧ (ob b).length = 124 := by
  unfold oe at h
  by_cases h1 : b.length = 128
  · by_cases h2 : fits b
    · have e : ob b = b.drop 4 := by unfold ob; rw [if_pos ⟨h1, h2⟩]
      exact ⟨h1, h2, e, by rw [e, List.length_drop, h1]⟩
    · rw [if_pos h1, if_neg h2] at h
      cases h
  · rw [if_neg h1] at h
    cases h
theorem okRe_no {b : List UInt8} (h : ¬ cntN (ob b) ≤ 54) : okRe b = false := by
  have : decide (cntN (ob b) ≤ 40) = false := by simp; omega
  simp [okRe, this]
theorem okRe_may {b : List UInt8} (h : mayS (fieldsS (ob b)) = false) : okRe b = false := by simp [okRe, h]
theorem okRe_eq {b : List UInt8} (hc : cntN (ob b) ≤ 54) (h : mayS (fieldsS (ob b)) = true) : okRe b = decide (blkS (fieldsS (ob b)) = b) := by
  have h40 := (mayS_of h).2.1
  have hd : (fieldsS (ob b)).2.2.2.2 = deadN (ob b) (cntN (ob b)) := by simp [fieldsS, deadV, hc]
  rw [hd, deadN_length] at h40
  simp [okRe, h, h40]

set_option maxRecDepth 100000 in
set_option maxHeartbeats 8000000 in
theorem ringRead_any (v : Value) (b : List UInt8) (w : World) (hbig : b.length ≤ 1000000) (h : rBy (Old w) w [v] b) :
    Calls Try.prog 14 #[v] w fun e w' => ∃ u, e = .returned (.tuple #[u, .int .i64 (reE b)]) ∧ Sup (New w.heap.size w') w' u (reS b) ∧ Below w.heap.size w w' := by
  obtain ⟨A, c, rfl, l1, m1, hy⟩ := rBy_byt (B := w.heap.size) (fun p hp => hp) h
  obtain ⟨w0, hw0, _, _, _, _, _, hs0, hB0, b0⟩ := box_five w (.int .u32 0) (.int .i64 0) (.int .u32 0) (.int .u32 0) (.slice none 0 0) 37
  have lt0 : w.heap.size < w0.heap.size := by omega
  have HB0 := Lib.hid hB0
  obtain ⟨n, hn⟩ : ∃ n, b.length = n := ⟨_, rfl⟩
  rw [hn] at l1 hbig h ⊢
  have HV := Lib.hid h
  replace hn := Lib.hid hn
  replace b0 := Lib.hid b0
  replace hw0 := Lib.hid hw0
  have HY := Lib.hid ((hy.below hB0).more hB0.size)
  have HR : Hid (reE b = if oe b = 0 then (if okRe b then 0 else 8) else oe b) := Lib.hid rfl
  have HS : Hid (reS b = if oe b = 0 then (if okRe b then fieldsS (ob b) else zeroSp) else zeroSp) := Lib.hid rfl
  clear hB0 hs0 h hy
  go_enter Try.func14, Try.ntmps14
  go_upto_region 1 with fail
  rw [hw0.out]
  clear hw0
  go_wp2_with fail
  with_reducible refine (open_any A n c b hn l1 m1 _ HY.out).mono ?_
  rintro f1 w1 ⟨y, rfl, ho, hb1⟩
  have B1 := Lib.hid (HB0.out.trans (hb1.mono HB0.out.size))
  have C1 := Lib.hid hb1
  obtain ⟨q, hq⟩ : ∃ q, oe b = q := ⟨_, rfl⟩
  rw [hq]
  replace ho := Lib.hid ho
  clear hb1
  by_cases hq0 : q = 0
  case neg =>
    have b9 := (C1.out.block w.heap.size lt0).trans b0.out
    obtain ⟨W9, hW9, g9, gr9, gs9⟩ := put_five (u0 := .int .u32 0) (u1 := .int .i64 0) (u2 := .int .u32 0) (u3 := .int .u32 0) (u4 := .slice none 0 0) b9
    obtain ⟨k0, k1, k2, k3, k4, _, _⟩ := five_cells g9
    obtain ⟨a0, a1, a2, a3, a4, af, _⟩ := five_cells b9
    have B9 := Lib.hid (B1.out.grown gr9 B1.out.size (fun q e => by cases e; omega))
    have hE := Lib.hid (show reE b = q by rw [HR.out, hq, if_neg hq0])
    have hS := Lib.hid (show reS b = zeroSp by rw [HS.out, hq, if_neg hq0])
    have ht : (q != 0) = true := by simpa using hq0
    replace b9 := Lib.hid b9
    replace hq := Lib.hid hq
    clear g9 gr9 hq0
    go_wp2_with fail
    exact bodyPost_ret (v := .tuple #[.agg #[.int .u32 0, .int .i64 0, .int .u32 0, .int .u32 0, .slice none 0 0], .int .i64 q]) (by simp [results, Try.results14, go_sem, k0, k1, k2, k3, k4]) rfl ⟨_, ret_two hE.out.symm, by rw [hS.out]; exact sup_zero _ _, B9.out⟩
  subst hq0
  obtain ⟨hl, hx1, hx2, h124⟩ := oe_zero hq
  clear hx1 hx2
  have HE := Lib.hid (show reE b = if okRe b then 0 else 8 by rw [HR.out, if_pos hq])
  have HS2 := Lib.hid (show reS b = if okRe b then fieldsS (ob b) else zeroSp by rw [HS.out, if_pos hq])
  have h124' := Lib.hid h124
  have hyb := own_by ho.out
  obtain ⟨Y, cy, rfl, _⟩ := id (rBy_open hyb)
  have hyo := Lib.hid (stab_by.drop hyb)
  replace hl := Lib.hid hl
  replace hq := Lib.hid hq
  clear hyb h124 ho
  go_wp2_with fail
  with_reducible refine (fields_any _ (ob b) h124'.out _ hyo.out).mono ?_
  rintro f2 w2 ⟨u, rfl, hu, hb2⟩
  obtain ⟨D, dc, rfl, _⟩ := id hu.open
  have B2 := Lib.hid (B1.out.trans (hb2.mono B1.out.size))
  have C2 := Lib.hid (C1.out.trans (hb2.mono C1.out.size))
  obtain ⟨s, hs⟩ : ∃ s, fieldsR (ob b) = s := ⟨_, rfl⟩
  rw [hs] at hu ⊢
  obtain ⟨w3, hw3, z0, z1, z2, z3, z4, hs3, hB3, _⟩ := box_five w2 (.int .u32 s.1) (.int .i64 s.2.1) (.int .u32 s.2.2.1) (.int .u32 s.2.2.2.1) (.slice D s.2.2.2.2.length dc) 37
  have hu3 := Lib.hid (hu.new (Nat.le_refl _) hB3)
  have B3 := Lib.hid (B2.out.trans (hB3.mono B2.out.size))
  have C3 := Lib.hid (C2.out.trans (hB3.mono C2.out.size))
  have lt3 := Lib.hid (show w2.heap.size < w3.heap.size by omega)
  have lo1 := Lib.hid (Nat.lt_of_lt_of_le lt0 C1.out.size)
  obtain ⟨k, hk⟩ : ∃ k, cntN (ob b) = k := ⟨_, rfl⟩
  rw [hk]
  have hfr := Lib.hid (show s = if k ≤ 54 then fieldsS (ob b) else zeroSp by rw [← hs, ← hk]; rfl)
  replace hs := Lib.hid hs
  replace hk := Lib.hid hk
  replace hs3 := Lib.hid hs3
  clear hu hb2 hB3 hyo
  go_upto_region 5 with fail
  clear hw3
  by_cases h54 : k ≤ 54
  case neg =>
    have hde := Lib.hid (show deadE k = 8 by simp [deadE, h54])
    have b9 := (C3.out.block w.heap.size lt0).trans b0.out
    obtain ⟨W9, hW9, g9, gr9, gs9⟩ := put_five (u0 := .int .u32 0) (u1 := .int .i64 0) (u2 := .int .u32 0) (u3 := .int .u32 0) (u4 := .slice none 0 0) b9
    obtain ⟨k0, k1, k2, k3, k4, _, _⟩ := five_cells g9
    obtain ⟨a0, a1, a2, a3, a4, af, _⟩ := five_cells b9
    have B9 := Lib.hid (B3.out.grown gr9 B3.out.size (fun q e => by cases e; omega))
    have hno := okRe_no (b := b) (by rw [hk.out]; exact h54)
    have hE := Lib.hid (show reE b = 8 by rw [HE.out, hno]; rfl)
    have hS := Lib.hid (show reS b = zeroSp by rw [HS2.out, hno]; rfl)
    rw [hde.out]
    replace b9 := Lib.hid b9
    replace hno := Lib.hid hno
    clear g9 gr9
    go_wp2_with fail
    exact bodyPost_ret (v := .tuple #[.agg #[.int .u32 0, .int .i64 0, .int .u32 0, .int .u32 0, .slice none 0 0], .int .i64 8]) (by simp [results, Try.results14, go_sem, k0, k1, k2, k3, k4]) rfl ⟨_, ret_two hE.out.symm, by rw [hS.out]; exact sup_zero _ _, B9.out⟩
  have hde := Lib.hid (show deadE k = 0 by simp [deadE, h54])
  have hsf := Lib.hid (show s = fieldsS (ob b) by rw [hfr.out, if_pos h54])
  have h54' := Lib.hid (show cntN (ob b) ≤ 54 by rw [hk.out]; exact h54)
  rw [hde.out]
  clear h54
  go_wp2_with fail
  with_reducible refine (ringWrite_any _ s _ hu3.out.drop).mono ?_
  rintro f4 w4 ⟨u4, rfl, hu4, hb4⟩
  have B4 := Lib.hid (B3.out.trans (hb4.mono B3.out.size))
  have C4 := Lib.hid (C3.out.trans (hb4.mono C3.out.size))
  have b9 := (C4.out.block w.heap.size lt0).trans b0.out
  obtain ⟨a0, a1, a2, a3, a4, af, _⟩ := five_cells b9
  replace z0 := (hb4.cell (p := ⟨w2.heap.size, 0, none⟩) lt3.out).trans z0
  replace z1 := (hb4.cell (p := ⟨w2.heap.size, 1, none⟩) lt3.out).trans z1
  replace z2 := (hb4.cell (p := ⟨w2.heap.size, 2, none⟩) lt3.out).trans z2
  replace z3 := (hb4.cell (p := ⟨w2.heap.size, 3, none⟩) lt3.out).trans z3
  replace z4 := (hb4.cell (p := ⟨w2.heap.size, 4, none⟩) lt3.out).trans z4
  have hu5 := Lib.hid (hu3.out.new (Nat.le_refl _) hb4)
  have hbo := Lib.hid (stab_by.old HV.out B4.out)
  have hwo := Lib.hid (stab_by.drop hu4)
  have z9 : ∀ (W9 : World), w4.grownBy W9 (some w.heap.size) → Sup (New w.heap.size W9) W9 (.agg #[.int .u32 s.1, .int .i64 s.2.1, .int .u32 s.2.2.1, .int .u32 s.2.2.2.1, .slice D s.2.2.2.2.length dc]) s := fun W9 gr => by
    have h1 := hu5.out.grown gr (fun q e => by cases e; exact lo1.out)
    exact h1.map fun p v hp hc => ⟨⟨Nat.le_trans (Nat.le_of_lt lo1.out) hp.1, hp.2⟩, hc⟩
  replace z9 := Lib.hid z9
  clear hb4 hu4
  have bad : okRe b = false → ∃ W9 : World, (((((w4.setCell ⟨w.heap.size, 0, none⟩ (.int .u32 0)).setCell ⟨w.heap.size, 1, none⟩ (.int .i64 0)).setCell ⟨w.heap.size, 2, none⟩ (.int .u32 0)).setCell ⟨w.heap.size, 3, none⟩ (.int .u32 0)).setCell ⟨w.heap.size, 4, none⟩ (.slice none 0 0)) = W9 ∧
      W9.heap[w.heap.size]? = some (.cells #[.int .u32 0, .int .i64 0, .int .u32 0, .int .u32 0, .slice none 0 0] 37 (0, 0)) ∧ Hid (reE b = 8 ∧ reS b = zeroSp ∧ Below w.heap.size w W9) := fun hno => by
    obtain ⟨W9, hW9, g9, gr9, gs9⟩ := put_five (u0 := .int .u32 0) (u1 := .int .i64 0) (u2 := .int .u32 0) (u3 := .int .u32 0) (u4 := .slice none 0 0) b9
    exact ⟨W9, hW9, g9, Lib.hid ⟨by rw [HE.out, hno]; rfl, by rw [HS2.out, hno]; rfl, B4.out.grown gr9 B4.out.size (fun q e => by cases e; omega)⟩⟩
  replace bad := Lib.hid bad
  replace b9 := Lib.hid b9
  cases hm : mayS s with
  | false =>
    have hno := okRe_may (b := b) (by rw [← hsf.out]; exact hm)
    obtain ⟨W9, hW9, g9, hz⟩ := bad.out hno
    obtain ⟨k0, k1, k2, k3, k4, _, _⟩ := five_cells g9
    have hck := Lib.hid (chkS_bad hm)
    rw [hck.out]
    replace g9 := Lib.hid g9
    replace hno := Lib.hid hno
    clear hm
    go_wp2_with fail
    exact bodyPost_ret (v := .tuple #[.agg #[.int .u32 0, .int .i64 0, .int .u32 0, .int .u32 0, .slice none 0 0], .int .i64 8]) (by simp [results, Try.results14, go_sem, k0, k1, k2, k3, k4]) rfl ⟨_, ret_two hz.out.1.symm, by rw [hz.out.2.1]; exact sup_zero _ _, hz.out.2.2⟩
  | true =>
    have hck := Lib.hid (chkS_ok hm)
    have hok : okRe b = decide (blkS s = b) := by rw [hsf.out]; exact okRe_eq h54'.out (by rw [← hsf.out]; exact hm)
    have hwr := Lib.hid (show wrS s = blkS s by simp [wrS, hm])
    rw [hck.out]
    replace hm := Lib.hid hm
    rw [hwr.out] at hwo
    by_cases heq : blkS s = b
    · have hyes : okRe b = true := by rw [hok]; simpa using heq
      obtain ⟨W9, hW9, g9, gr9, gs9⟩ := put_five (u0 := .int .u32 s.1) (u1 := .int .i64 s.2.1) (u2 := .int .u32 s.2.2.1) (u3 := .int .u32 s.2.2.2.1) (u4 := .slice D s.2.2.2.2.length dc) b9.out
      obtain ⟨k0, k1, k2, k3, k4, _, _⟩ := five_cells g9
      have hz : Hid (reE b = 0 ∧ Sup (New w.heap.size W9) W9 (.agg #[.int .u32 s.1, .int .i64 s.2.1, .int .u32 s.2.2.1, .int .u32 s.2.2.2.1, .slice D s.2.2.2.2.length dc]) (reS b) ∧ Below w.heap.size w W9) := Lib.hid ⟨by rw [HE.out, hyes]; rfl, by rw [HS2.out, hyes, if_pos rfl, ← hsf.out]; exact z9.out W9 gr9, B4.out.grown gr9 B4.out.size (fun q e => by cases e; omega)⟩
      have hdc := Lib.hid (show decide (blkS s = b) = true by simpa using heq)
      replace g9 := Lib.hid g9
      replace hyes := Lib.hid hyes
      replace hok := Lib.hid hok
      clear heq gr9
      go_wp2_with fail
      with_reducible refine (equal_any _ _ (blkS s) b _ hwo.out hbo.out).mono ?_
      rintro f6 w6 ⟨rfl, rfl⟩
      rw [hdc.out]
      go_wp2_with fail
      exact bodyPost_ret (v := .tuple #[.agg #[.int .u32 s.1, .int .i64 s.2.1, .int .u32 s.2.2.1, .int .u32 s.2.2.2.1, .slice D s.2.2.2.2.length dc], .int .i64 0]) (by simp [results, Try.results14, go_sem, k0, k1, k2, k3, k4]) rfl ⟨_, ret_two hz.out.1.symm, hz.out.2.1, hz.out.2.2⟩
    · have hno : okRe b = false := by rw [hok]; simpa using heq
      obtain ⟨W9, hW9, g9, hz⟩ := bad.out hno
      obtain ⟨k0, k1, k2, k3, k4, _, _⟩ := five_cells g9
      have hdc := Lib.hid (show decide (blkS s = b) = false by simpa using heq)
      replace g9 := Lib.hid g9
      replace hno := Lib.hid hno
      replace hok := Lib.hid hok
      clear heq
      go_wp2_with fail
      with_reducible refine (equal_any _ _ (blkS s) b _ hwo.out hbo.out).mono ?_
      rintro f6 w6 ⟨rfl, rfl⟩
      rw [hdc.out]
      go_wp2_with fail
      exact bodyPost_ret (v := .tuple #[.agg #[.int .u32 0, .int .i64 0, .int .u32 0, .int .u32 0, .slice none 0 0], .int .i64 8]) (by simp [results, Try.results14, go_sem, k0, k1, k2, k3, k4]) rfl ⟨_, ret_two hz.out.1.symm, by rw [hz.out.2.1]; exact sup_zero _ _, hz.out.2.2⟩
end Go.Proofs.Ytdcgcnnofjekaaa

/-
  The document's answers of layer 4: Read. Conditions: those that each lemma states.
-/
namespace Go.Proofs.Ytdcgcnnofjekaaa
open Go.RowKit

section
variable {W : World} {g : Nat} {a b c d e u : Value} {t : TypeId}
theorem put5_0 (h : W.heap[g]? = some (.cells #[a, b, c, d, e] t (0, 0))) (u : Value) : ∃ W1, W.setCell ⟨g, 0, none⟩ u = W1 ∧ W1.heap[g]? = some (.cells #[u, b, c, d, e] t (0, 0)) ∧ W.grownBy W1 (some g) ∧ W1.heap.size = W.heap.size :=
  ⟨_, rfl, by simp [World.setCell, Array.getElem?_modify, h], grow_put (p := ⟨g, 0, none⟩) (grow_refl W (some g)) rfl u, by simp⟩
theorem put5_1 (h : W.heap[g]? = some (.cells #[a, b, c, d, e] t (0, 0))) (u : Value) : ∃ W1, W.setCell ⟨g, 1, none⟩ u = W1 ∧ W1.heap[g]? = some (.cells #[a, u, c, d, e] t (0, 0)) ∧ W.grownBy W1 (some g) ∧ W1.heap.size = W.heap.size :=
  ⟨_, rfl, by simp [World.setCell, Array.getElem?_modify, h], grow_put (p := ⟨g, 1, none⟩) (grow_refl W (some g)) rfl u, by simp⟩
theorem put5_2 (h : W.heap[g]? = some (.cells #[a, b, c, d, e] t (0, 0))) (u : Value) : ∃ W1, W.setCell ⟨g, 2, none⟩ u = W1 ∧ W1.heap[g]? = some (.cells #[a, b, u, d, e] t (0, 0)) ∧ W.grownBy W1 (some g) ∧ W1.heap.size = W.heap.size :=
  ⟨_, rfl, by simp [World.setCell, Array.getElem?_modify, h], grow_put (p := ⟨g, 2, none⟩) (grow_refl W (some g)) rfl u, by simp⟩
theorem put5_3 (h : W.heap[g]? = some (.cells #[a, b, c, d, e] t (0, 0))) (u : Value) : ∃ W1, W.setCell ⟨g, 3, none⟩ u = W1 ∧ W1.heap[g]? = some (.cells #[a, b, c, u, e] t (0, 0)) ∧ W.grownBy W1 (some g) ∧ W1.heap.size = W.heap.size :=
  ⟨_, rfl, by simp [World.setCell, Array.getElem?_modify, h], grow_put (p := ⟨g, 3, none⟩) (grow_refl W (some g)) rfl u, by simp⟩
theorem put5_4 (h : W.heap[g]? = some (.cells #[a, b, c, d, e] t (0, 0))) (u : Value) : ∃ W1, W.setCell ⟨g, 4, none⟩ u = W1 ∧ W1.heap[g]? = some (.cells #[a, b, c, d, u] t (0, 0)) ∧ W.grownBy W1 (some g) ∧ W1.heap.size = W.heap.size :=
  ⟨_, rfl, by simp [World.setCell, Array.getElem?_modify, h], grow_put (p := ⟨g, 4, none⟩) (grow_refl W (some g)) rfl u, by simp⟩
end
theorem getTwo_refB (A : Option Addr) (len cap : Nat) (k : Int) (xs : List UInt8) (hlen : Hid (xs.length = len)) (hlc : len ≤ cap) (hcap : cap ≤ 9223372036854775807) (w : World) (hx : Byt w w.heap.size A xs) :
    Calls Try.prog 49 #[.slice A len cap, .int .i64 k] w fun e w' => e = .returned (.tuple #[.int .i64 (gv 2 xs k), .int .i64 (ge 2 len k)]) ∧ Below w.heap.size w w' :=
  (getTwo_ref A len cap k xs hlen hlc hcap w hx).mono fun _ _ ⟨e, hw⟩ => ⟨e, hw ▸ Below.refl _ _⟩
theorem getFour_refB (A : Option Addr) (len cap : Nat) (k : Int) (xs : List UInt8) (hlen : Hid (xs.length = len)) (hlc : len ≤ cap) (hcap : cap ≤ 9223372036854775807) (w : World) (hx : Byt w w.heap.size A xs) :
    Calls Try.prog 48 #[.slice A len cap, .int .i64 k] w fun e w' => e = .returned (.tuple #[.int .u32 (gv 4 xs k), .int .i64 (ge 4 len k)]) ∧ Below w.heap.size w w' :=
  (getFour_ref A len cap k xs hlen hlc hcap w hx).mono fun _ _ ⟨e, hw⟩ => ⟨e, hw ▸ Below.refl _ _⟩
theorem okRe_many {b : List UInt8} (h : 40 < cntN (ob b)) : okRe b = false := by
  have : decide (cntN (ob b) ≤ 40) = false := by simp; omega
  simp [okRe, this]

set_option maxRecDepth 100000 in
set_option maxHeartbeats 8000000 in
theorem refRead4_any (v : Value) (b : List UInt8) (w : World) (hbig : b.length ≤ 1000000) (h : rBy (Old w) w [v] b) :
    Calls Try.prog 19 #[v] w fun e w' => ∃ u, e = .returned (.tuple #[u, .int .i64 (reE b)]) ∧ Sup (New w.heap.size w') w' u (reS b) ∧ Below w.heap.size w w' := by
  obtain ⟨A, c, rfl, l1, m1, hy⟩ := rBy_byt (B := w.heap.size) (fun p hp => hp) h
  obtain ⟨w0, hw0, _, _, _, _, _, hs0, hB0, b0⟩ := box_five w (.int .u32 0) (.int .i64 0) (.int .u32 0) (.int .u32 0) (.slice none 0 0) 37
  have lt0 : w.heap.size < w0.heap.size := by omega
  have HB0 := Lib.hid hB0
  obtain ⟨n, hn⟩ : ∃ n, b.length = n := ⟨_, rfl⟩
  rw [hn] at l1 hbig h ⊢
  have HV := Lib.hid h
  replace hn := Lib.hid hn
  replace b0 := Lib.hid b0
  replace hw0 := Lib.hid hw0
  have HY := Lib.hid ((hy.below hB0).more hB0.size)
  have HR : Hid (reE b = if oe b = 0 then (if okRe b then 0 else 8) else oe b) := Lib.hid rfl
  have HS : Hid (reS b = if oe b = 0 then (if okRe b then fieldsS (ob b) else zeroSp) else zeroSp) := Lib.hid rfl
  clear hB0 hs0 h hy
  go_enter Try.func19, Try.ntmps19
  go_upto_region 1 with fail
  rw [hw0.out]
  clear hw0
  go_wp2_with fail
  with_reducible refine (openRef_any A n c b hn l1 m1 _ HY.out).mono ?_
  rintro f1 w1 ⟨y, rfl, ho, hb1⟩
  have B1 := Lib.hid (HB0.out.trans (hb1.mono HB0.out.size))
  have C1 := Lib.hid hb1
  obtain ⟨q, hq⟩ : ∃ q, oe b = q := ⟨_, rfl⟩
  rw [hq]
  replace ho := Lib.hid ho
  clear hb1
  by_cases hq0 : q = 0
  case neg =>
    have b9 := (C1.out.block w.heap.size lt0).trans b0.out
    obtain ⟨W9, hW9, g9, gr9, gs9⟩ := put_five (u0 := .int .u32 0) (u1 := .int .i64 0) (u2 := .int .u32 0) (u3 := .int .u32 0) (u4 := .slice none 0 0) b9
    obtain ⟨k0, k1, k2, k3, k4, _, _⟩ := five_cells g9
    obtain ⟨a0, a1, a2, a3, a4, af, _⟩ := five_cells b9
    have B9 := Lib.hid (B1.out.grown gr9 B1.out.size (fun q e => by cases e; omega))
    have hE := Lib.hid (show reE b = q by rw [HR.out, hq, if_neg hq0])
    have hS := Lib.hid (show reS b = zeroSp by rw [HS.out, hq, if_neg hq0])
    have ht : (q != 0) = true := by simpa using hq0
    replace b9 := Lib.hid b9
    replace hq := Lib.hid hq
    clear g9 gr9 hq0
    go_wp2_with fail
    exact bodyPost_ret (v := .tuple #[.agg #[.int .u32 0, .int .i64 0, .int .u32 0, .int .u32 0, .slice none 0 0], .int .i64 q]) (by simp [results, Try.results19, go_sem, k0, k1, k2, k3, k4]) rfl ⟨_, ret_two hE.out.symm, by rw [hS.out]; exact sup_zero _ _, B9.out⟩
  subst hq0
  obtain ⟨hl, hx1, hx2, h124⟩ := oe_zero hq
  clear hx1 hx2
  have HE := Lib.hid (show reE b = if okRe b then 0 else 8 by rw [HR.out, if_pos hq])
  have HS2 := Lib.hid (show reS b = if okRe b then fieldsS (ob b) else zeroSp by rw [HS.out, if_pos hq])
  have hyb := own_by ho.out
  obtain ⟨Y, cy, ey, ly, my, hyy⟩ := rBy_byt (B := w1.heap.size) (fun p hp => hp) (stab_by.drop hyb)
  subst ey
  obtain ⟨body, hbo⟩ : ∃ body, ob b = body := ⟨_, rfl⟩
  rw [hbo] at h124 hyb hyy ly ⊢
  rw [h124] at ly ⊢
  have HL := Lib.hid h124
  have HYY := Lib.hid hyy
  have H14 : ∀ W : World, Below w1.heap.size w1 W → ∃ ad, Y = some ad ∧ W.cell? ⟨ad.block, ad.off + 14, none⟩ = some (.int .u8 (cntN body : Int)) := fun W hb => by
    obtain ⟨ad, e, hb2, hc⟩ := hyy (by omega)
    have h1 := hc 14 (by omega)
    have h2 := (hb.cell (p := ad.add 14) (by rw [add_block]; exact hb2)).trans h1
    exact ⟨ad, e, by simpa [Addr.add, cntN] using h2⟩
  replace H14 := Lib.hid H14
  have hcn := cntN_lt body
  obtain ⟨k, hk⟩ : ∃ k, cntN body = k := ⟨_, rfl⟩
  rw [hk] at H14 hcn
  have e0 := Lib.hid (ge_in (m := 4) (k := 0) (by omega) (by omega))
  have e1 := Lib.hid (ge_in (m := 2) (k := 4) (by omega) (by omega))
  have e2 := Lib.hid (ge_in (m := 4) (k := 6) (by omega) (by omega))
  have e3 := Lib.hid (ge_in (m := 4) (k := 10) (by omega) (by omega))
  have hin := inSp_fields body
  obtain ⟨x0, hx0⟩ : ∃ x, gv 4 body 0 = x := ⟨_, rfl⟩
  obtain ⟨x1, hx1⟩ : ∃ x, gv 2 body 4 = x := ⟨_, rfl⟩
  obtain ⟨x2, hx2⟩ : ∃ x, gv 4 body 6 = x := ⟨_, rfl⟩
  obtain ⟨x3, hx3⟩ : ∃ x, gv 4 body 10 = x := ⟨_, rfl⟩
  have hF := Lib.hid (fun h40 : k ≤ 40 => (show fieldsS body = (x0, x1, x2, x3, deadN body k) by
    have : cntN body ≤ 54 := by omega
    rw [← hx0, ← hx1, ← hx2, ← hx3, ← hk]
    simp [fieldsS, deadV, this]))
  replace hin := Lib.hid hin
  replace hx0 := Lib.hid hx0
  replace hx1 := Lib.hid hx1
  replace hx2 := Lib.hid hx2
  replace hx3 := Lib.hid hx3
  replace hk := Lib.hid hk
  replace hbo := Lib.hid hbo
  replace hl := Lib.hid hl
  replace hq := Lib.hid hq
  obtain ⟨w2, hw2, _, _, _, _, _, hs2, hB2, b2⟩ := box_five w1 (.int .u32 0) (.int .i64 0) (.int .u32 0) (.int .u32 0) (.slice none 0 0) 37
  replace hw2 := Lib.hid hw2
  have lt2 : w1.heap.size < w2.heap.size := by omega
  have C2 := Lib.hid hB2
  have lt1 := Lib.hid (Nat.lt_of_lt_of_le lt0 C1.out.size)
  clear hB2 hs2 hyb hyy h124 ho
  go_upto_region 5 with fail
  rw [hw2.out]
  clear hw2
  go_wp2_with fail
  with_reducible refine (getFour_refB Y 124 cy 0 body HL ly my _ ((HYY.out.below C2.out).more C2.out.size)).mono ?_
  rintro f3 w3 ⟨rfl, hb3⟩
  rw [e0.out, hx0.out]
  obtain ⟨w4, hw4, b4, gr4, gs4⟩ := put5_0 ((hb3.block w1.heap.size lt2).trans b2) (.int .u32 x0)
  have z3 := five_cells ((hb3.block w1.heap.size lt2).trans b2)
  obtain ⟨z3, _, _, _, _, zf, _⟩ := z3
  have C4 := Lib.hid ((C2.out.trans (hb3.mono C2.out.size)).grown gr4 (Nat.le_trans C2.out.size hb3.size) (fun q e => by cases e; omega))
  have lt4 : w1.heap.size < w4.heap.size := by have := hb3.size; omega
  clear hb3 gr4
  replace gs4 := Lib.hid gs4
  replace b4 := Lib.hid b4
  go_upto_region 6 with fail
  clear hw4 z3 zf b2
  go_wp2_with fail
  with_reducible refine (getTwo_refB Y 124 cy 4 body HL ly my _ ((HYY.out.below C4.out).more C4.out.size)).mono ?_
  rintro f5 w5 ⟨rfl, hb5⟩
  rw [e1.out, hx1.out]
  have b5 := (hb5.block w1.heap.size lt4).trans b4.out
  obtain ⟨w6, hw6, b6, gr6, gs6⟩ := put5_1 b5 (.int .i64 x1)
  obtain ⟨_, z3, _, _, _, zf, _⟩ := five_cells b5
  have C6 := Lib.hid ((C4.out.trans (hb5.mono C4.out.size)).grown gr6 (Nat.le_trans C4.out.size hb5.size) (fun q e => by cases e; omega))
  have lt6 : w1.heap.size < w6.heap.size := by have := hb5.size; omega
  clear hb5 gr6
  replace gs6 := Lib.hid gs6
  replace b5 := Lib.hid b5
  replace b6 := Lib.hid b6
  go_upto_region 7 with fail
  clear hw6 z3 zf b4 b5
  go_wp2_with fail
  with_reducible refine (getFour_refB Y 124 cy 6 body HL ly my _ ((HYY.out.below C6.out).more C6.out.size)).mono ?_
  rintro f7 w7 ⟨rfl, hb7⟩
  rw [e2.out, hx2.out]
  have b7 := (hb7.block w1.heap.size lt6).trans b6.out
  obtain ⟨w8, hw8, b8, gr8, gs8⟩ := put5_2 b7 (.int .u32 x2)
  obtain ⟨_, _, z3, _, _, zf, _⟩ := five_cells b7
  have C8 := Lib.hid ((C6.out.trans (hb7.mono C6.out.size)).grown gr8 (Nat.le_trans C6.out.size hb7.size) (fun q e => by cases e; omega))
  have lt8 : w1.heap.size < w8.heap.size := by have := hb7.size; omega
  clear hb7 gr8
  replace gs8 := Lib.hid gs8
  replace b7 := Lib.hid b7
  replace b8 := Lib.hid b8
  go_upto_region 8 with fail
  clear hw8 z3 zf b6 b7
  go_wp2_with fail
  with_reducible refine (getFour_refB Y 124 cy 10 body HL ly my _ ((HYY.out.below C8.out).more C8.out.size)).mono ?_
  rintro f9 w9 ⟨rfl, hb9⟩
  rw [e3.out, hx3.out]
  have b9 := (hb9.block w1.heap.size lt8).trans b8.out
  obtain ⟨wa, hwa, ba, gra, gsa⟩ := put5_3 b9 (.int .u32 x3)
  obtain ⟨_, _, _, z3, _, zf, _⟩ := five_cells b9
  have Ca := Lib.hid ((C8.out.trans (hb9.mono C8.out.size)).grown gra (Nat.le_trans C8.out.size hb9.size) (fun q e => by cases e; omega))
  have lta : w1.heap.size < wa.heap.size := by have := hb9.size; omega
  clear hb9 gra
  replace gsa := Lib.hid gsa
  replace b9 := Lib.hid b9
  replace ba := Lib.hid ba
  go_upto_region 9 with fail
  clear hwa z3 zf b8 b9 lt4 lt6 lt8
  obtain ⟨ad, eY, h14⟩ := H14.out wa Ca.out
  subst eY
  by_cases h40 : 40 < k
  · have h40' : (k : Int) > 40 := by omega
    have b9 := ((C1.out.trans (Ca.out.mono C1.out.size)).block w.heap.size lt0).trans b0.out
    obtain ⟨W9, hW9, g9, gr9, gs9⟩ := put_five (u0 := .int .u32 0) (u1 := .int .i64 0) (u2 := .int .u32 0) (u3 := .int .u32 0) (u4 := .slice none 0 0) b9
    obtain ⟨k0, k1, k2, k3, k4, _, _⟩ := five_cells g9
    obtain ⟨a0, a1, a2, a3, a4, af, _⟩ := five_cells b9
    have Bx := B1.out.trans (Ca.out.mono B1.out.size)
    have B9 := Lib.hid (Bx.grown gr9 Bx.size (fun q e => by cases e; omega))
    have hno := okRe_many (b := b) (by rw [hbo.out, hk.out]; exact h40)
    have hE := Lib.hid (show reE b = 8 by rw [HE.out, hno]; rfl)
    have hS := Lib.hid (show reS b = zeroSp by rw [HS2.out, hno]; rfl)
    replace b9 := Lib.hid b9
    replace hno := Lib.hid hno
    clear g9 gr9 Bx
    go_wp2_with fail
    exact bodyPost_ret (v := .tuple #[.agg #[.int .u32 0, .int .i64 0, .int .u32 0, .int .u32 0, .slice none 0 0], .int .i64 8]) (by simp [results, Try.results19, go_sem, k0, k1, k2, k3, k4]) rfl ⟨_, ret_two hE.out.symm, by rw [hS.out]; exact sup_zero _ _, B9.out⟩
  have h40' : ¬ (k : Int) > 40 := by omega
  have h40n : k ≤ 40 := by omega
  have LA := Lib.hid lta
  go_wp2_with fail
  go_loopw [7] (fun i wr => ∃ j : Nat, j ≤ k ∧ i = .int .i64 j ∧ Below w1.heap.size w1 wr ∧ wa.heap.size ≤ wr.heap.size ∧ ∃ (A1 : Option Addr) (c1 : Nat), wr.heap[w1.heap.size]? = some (.cells #[.int .u32 x0, .int .i64 x1, .int .u32 x2, .int .u32 x3, .slice A1 j c1] 37 (0, 0)) ∧ RowOf (rK .i64) 1 3 wa.heap.size wr A1 c1 (deadN body j)) (fun i _ => k - (intOf i).toNat)
  case atStart => exact ⟨0, by omega, rfl, Ca.out, Nat.le_refl _, none, 0, ba.out, RowOf.nil _ _ _ _ _⟩
  case round =>
    clear h14 h40' h40
    obtain ⟨j, hj, rfl, hB, hsz, A1, c1, hbk, hrow⟩ := hrel
    obtain ⟨ad', eY, h14⟩ := H14.out wr hB
    cases eY
    obtain ⟨y0, y1, y2, y3, y4, yf, ylt⟩ := five_cells hbk
    have B := Lib.hid hB
    have SZ := Lib.hid hsz
    have BK := Lib.hid hbk
    replace hrow := Lib.hid hrow
    clear hB hbk hsz
    by_cases hlt : j < k
    · have hge := Lib.hid (show ge 2 124 (15 + 2 * (j : Int)) = 0 from ge_yes ⟨by omega, by omega⟩)
      have hin2 := Lib.hid (gv2_in body (15 + 2 * (j : Int)))
      have hsu := Lib.hid (deadN_succ body j)
      have hdl := Lib.hid (deadN_length body j)
      have hlt' : (j : Int) < (k : Int) := by omega
      go_wp2_with fail
      with_reducible refine (getTwo_refB (some ad) 124 cy (15 + 2 * (j : Int)) body HL ly my _ ((HYY.out.below B.out).more B.out.size)).mono ?_
      rintro g1 v1 ⟨rfl, hb1⟩
      rw [hge.out]
      obtain ⟨x, hx⟩ : ∃ x, gv 2 body (15 + 2 * (j : Int)) = x := ⟨_, rfl⟩
      rw [hx] at hin2 hsu ⊢
      replace hx := Lib.hid hx
      have bk1 := (hb1.block w1.heap.size ylt).trans BK.out
      obtain ⟨v8, hv8, hs8⟩ : ∃ v8, v1.alloc (.cells #[.int .i64 x] 3) = v8 ∧ v8.heap[v1.heap.size]? = some (.cells #[.int .i64 x] 3 (0, 0)) := ⟨_, rfl, heap_alloc_new _ _⟩
      have b8 : Below v1.heap.size v1 v8 := by rw [← hv8]; exact (Below.refl _ _).alloc (Nat.le_refl _) _
      have row8 := ((hrow.out.below (stab_k _) hb1).below (stab_k _) b8)
      obtain ⟨A2, c2, v9, hr9, row9, gr9, ba9⟩ := ints_push row8 v1.heap.size x 1 hs8 (by rw [hdl.out]; omega) (Nat.le_trans SZ.out (Nat.le_trans hb1.size b8.size)) hin2.out
      rw [hdl.out] at hr9
      have bk9 := (ba9.block w1.heap.size LA.out).trans ((b8.block w1.heap.size (Nat.lt_of_lt_of_le ylt hb1.size)).trans bk1)
      obtain ⟨va, hva, ba, gra, gsa⟩ := put5_4 bk9 (.slice A2 (j + 1) c2)
      obtain ⟨_, _, _, _, y9, yg, _⟩ := five_cells bk9
      obtain ⟨_, _, _, _, y8, _, _⟩ := five_cells ((b8.block w1.heap.size (Nat.lt_of_lt_of_le ylt hb1.size)).trans bk1)
      obtain ⟨_, _, _, _, y7, _, _⟩ := five_cells bk1
      have Sx := Nat.le_trans SZ.out (Nat.le_trans hb1.size b8.size)
      have Bx := (((B.out.trans (hb1.mono B.out.size)).trans (b8.mono (Nat.le_trans B.out.size hb1.size))).trans (ba9.mono (Nat.le_of_lt LA.out)))
      have B9 := Lib.hid (Bx.grown gra Bx.size (fun q e => by cases e; omega))
      have S9 := Lib.hid (show wa.heap.size ≤ va.heap.size by have := ba9.size; omega)
      have rowa := Lib.hid (row9.grown (stab_k _) gra (fun q e => by cases e; exact LA.out))
      have H9 := Lib.hid hr9
      replace ba := Lib.hid ba
      replace hs8 := Lib.hid hs8
      replace bk9 := Lib.hid bk9
      replace bk1 := Lib.hid bk1
      replace gsa := Lib.hid gsa
      clear hb1 b8 row8 row9 gr9 hr9 ba9 gra Bx Sx
      go_wp2_with (at_builtin; refine wpList_append_run rfl _ _ _ rfl rfl rfl H9.out ?_; clear H9)
      go_roundw
      case rel => exact ⟨j + 1, by omega, by go_num, B9.out, S9.out, A2, c2, ba.out, by rw [hsu.out]; exact rowa.out⟩
      case measure => simp [intOf]; omega
    · have hjk := Lib.hid (show j = k by omega)
      have hge : ¬ (j : Int) < (k : Int) := by omega
      have hdl := Lib.hid (deadN_length body j)
      obtain ⟨s, hs⟩ : ∃ s : Sp, s = (x0, x1, x2, x3, deadN body j) := ⟨_, rfl⟩
      have hsf := Lib.hid (show s = fieldsS (ob b) by rw [hs, hbo.out, hF.out h40n, hjk.out])
      have hsup : Sup (New wa.heap.size wr) wr (.agg #[.int .u32 x0, .int .i64 x1, .int .u32 x2, .int .u32 x3, .slice A1 j c1]) s := by
        have h1 := hrow.out.rel (stab_k _)
        rw [hdl.out] at h1
        have h2 := hin.out
        rw [← hbo.out, ← hsf.out, hs] at h2
        rw [hs]
        exact ⟨_, rfl, h2, h1⟩
      have BT := Lib.hid (B1.out.trans (B.out.mono B1.out.size))
      have CT := Lib.hid (C1.out.trans (B.out.mono C1.out.size))
      have HSUP := Lib.hid hsup
      have HBY := Lib.hid (stab_by.old HV.out BT.out)
      have hcells : ∀ W, Below wr.heap.size wr W → W.cell? ⟨w1.heap.size, 0, none⟩ = some (.int .u32 x0) ∧ W.cell? ⟨w1.heap.size, 1, none⟩ = some (.int .i64 x1) ∧ W.cell? ⟨w1.heap.size, 2, none⟩ = some (.int .u32 x2) ∧ W.cell? ⟨w1.heap.size, 3, none⟩ = some (.int .u32 x3) ∧ W.cell? ⟨w1.heap.size, 4, none⟩ = some (.slice A1 j c1) := fun W hb =>
        ⟨(hb.cell (p := ⟨w1.heap.size, 0, none⟩) ylt).trans y0, (hb.cell (p := ⟨w1.heap.size, 1, none⟩) ylt).trans y1, (hb.cell (p := ⟨w1.heap.size, 2, none⟩) ylt).trans y2, (hb.cell (p := ⟨w1.heap.size, 3, none⟩) ylt).trans y3, (hb.cell (p := ⟨w1.heap.size, 4, none⟩) ylt).trans y4⟩
      replace hcells := Lib.hid hcells
      have hb0 : ∀ W, Below wr.heap.size wr W → W.heap[w.heap.size]? = some (.cells #[.int .u32 0, .int .i64 0, .int .u32 0, .int .u32 0, .slice none 0 0] 37 (0, 0)) := fun W hb =>
        ((CT.out.trans (hb.mono CT.out.size)).block w.heap.size lt0).trans b0.out
      replace hb0 := Lib.hid hb0
      replace hs := Lib.hid hs
      clear hsup hge
      cases hm : mayS s with
      | false =>
        have hno := okRe_may (b := b) (by rw [← hsf.out]; exact hm)
        have hE := Lib.hid (show reE b = 8 by rw [HE.out, hno]; rfl)
        have hS := Lib.hid (show reS b = zeroSp by rw [HS2.out, hno]; rfl)
        have hm' := Lib.hid hm
        replace hno := Lib.hid hno
        clear hm
        go_wp2_with fail
        refine wp_region_fx (by kernel_rfl) (fun W => Below wr.heap.size wr W) (fun _ => none) (fun i => match i with
            | 1 => some (.bool false)
            | _ => none) (by kernel_rfl) (Below.refl _ _).drew (fun w w' h hb => h.trans (hb.mono h.size)) (fun j φ x W W' hp => by cases hp) ?_
        repeat (first
          | (refine wpAs_skip rfl ?_; simp only [Act.put, List.setIfInBounds_toArray, List.set_cons_zero, List.set_cons_succ])
          | (refine wpAs_pure (v := ?_) rfl rfl ?_ ?_; rotate_left; (intro W hC hE; clear hE; (obtain ⟨d0, d1, d2, d3, d4⟩ := hcells.out W hC); clear hC; go_simp; done); simp only [Act.put, List.setIfInBounds_toArray, List.set_cons_zero, List.set_cons_succ])
          | (refine wpAs_pure (v := ?_) rfl rfl ?_ ?_; rotate_left; (intro W hC hE; clear hE; (obtain ⟨d0, d1, d2, d3, d4⟩ := hcells.out W hC); clear hC; go_simp; with_reducible rfl); simp only [Act.put, List.setIfInBounds_toArray, List.set_cons_zero, List.set_cons_succ]))
        refine wpAs_fixed rfl rfl rfl ?_ ?_
        · intro W hC hE
          refine does_enter (f := 45) (args := #[.agg #[.int .u32 x0, .int .i64 x1, .int .u32 x2, .int .u32 x3, .slice A1 j c1]]) ?_ ?_
          · go_simp
          · refine (mayRefS_any _ s W (HSUP.out.drop.below hC)).mono ?_
            rintro e W' ⟨rfl, hg⟩
            rw [hm'.out]
            exact ⟨_, rfl, rfl, hg⟩
        simp only [Act.put, List.setIfInBounds_toArray, List.set_cons_zero, List.set_cons_succ]
        repeat (first
          | (refine wpAs_skip rfl ?_; simp only [Act.put, List.setIfInBounds_toArray, List.set_cons_zero, List.set_cons_succ])
          | (refine wpAs_pure (v := ?_) rfl rfl ?_ ?_; rotate_left; (intro W hC hE; clear hE; (obtain ⟨d0, d1, d2, d3, d4⟩ := hcells.out W hC); clear hC; go_simp; done); simp only [Act.put, List.setIfInBounds_toArray, List.set_cons_zero, List.set_cons_succ])
          | (refine wpAs_pure (v := ?_) rfl rfl ?_ ?_; rotate_left; (intro W hC hE; clear hE; (obtain ⟨d0, d1, d2, d3, d4⟩ := hcells.out W hC); clear hC; go_simp; with_reducible rfl); simp only [Act.put, List.setIfInBounds_toArray, List.set_cons_zero, List.set_cons_succ]))
        refine wpAs_end fun W hC hE => ?_
        clear hE
        have b9 := hb0.out W hC
        obtain ⟨W9, hW9, g9, gr9, gs9⟩ := put_five (u0 := .int .u32 0) (u1 := .int .i64 0) (u2 := .int .u32 0) (u3 := .int .u32 0) (u4 := .slice none 0 0) b9
        obtain ⟨k0, k1, k2, k3, k4, _, _⟩ := five_cells g9
        obtain ⟨a0, a1, a2, a3, a4, af, _⟩ := five_cells b9
        have Bx := BT.out.trans (hC.mono BT.out.size)
        have B9 := Lib.hid (Bx.grown gr9 Bx.size (fun q e => by cases e; omega))
        replace b9 := Lib.hid b9
        clear g9 gr9 Bx hC
        go_wp2_with fail
        exact bodyPost_ret (v := .tuple #[.agg #[.int .u32 0, .int .i64 0, .int .u32 0, .int .u32 0, .slice none 0 0], .int .i64 8]) (by simp [results, Try.results19, go_sem, k0, k1, k2, k3, k4]) rfl ⟨_, ret_two hE.out.symm, by rw [hS.out]; exact sup_zero _ _, B9.out⟩
      | true =>
        have h54 : cntN (ob b) ≤ 54 := by rw [hbo.out, hk.out]; omega
        have hok : okRe b = decide (blkS s = b) := by rw [hsf.out]; exact okRe_eq h54 (by rw [← hsf.out]; exact hm)
        have hm' := Lib.hid hm
        have hbl := Lib.hid (blkS_length hm)
        clear hm h54
        replace hok := Lib.hid hok
        cases hd : decide (blkS s = b) with
        | false =>
          have hdd := Lib.hid hd
          have hst' := Lib.hid (show (blkS s == b) = false by rw [beq_dec]; exact hd)
          clear hd
          go_wp2_with fail
          refine wp_region_fx (by kernel_rfl) (fun W => Below wr.heap.size wr W) (fun i => match i with
              | 5 => some (fun v W => rBy (New wr.heap.size W) W [v] (blkS s))
              | _ => none) (fun i => match i with
              | 1 => some (.bool true)
              | _ => none) (by kernel_rfl) (Below.refl _ _).drew (fun w w' h hb => h.trans (hb.mono h.size)) ?tst ?_
          case tst =>
            intro j φ x W W' hp hx hb
            match j, hp with
            | 5, hp => cases hp; exact stab_by.new hx (Nat.le_refl _) hb
          repeat (first
            | (refine wpAs_skip rfl ?_; simp only [Act.put, List.setIfInBounds_toArray, List.set_cons_zero, List.set_cons_succ])
            | (refine wpAs_pure (v := ?_) rfl rfl ?_ ?_; rotate_left; (intro W hC hE; clear hE; (obtain ⟨d0, d1, d2, d3, d4⟩ := hcells.out W hC); clear hC; go_simp; done); simp only [Act.put, List.setIfInBounds_toArray, List.set_cons_zero, List.set_cons_succ])
            | (refine wpAs_pure (v := ?_) rfl rfl ?_ ?_; rotate_left; (intro W hC hE; clear hE; (obtain ⟨d0, d1, d2, d3, d4⟩ := hcells.out W hC); clear hC; go_simp; with_reducible rfl); simp only [Act.put, List.setIfInBounds_toArray, List.set_cons_zero, List.set_cons_succ]))
          refine wpAs_fixed rfl rfl rfl ?_ ?_
          · intro W hC hE
            refine does_enter (f := 45) (args := #[.agg #[.int .u32 x0, .int .i64 x1, .int .u32 x2, .int .u32 x3, .slice A1 j c1]]) ?_ ?_
            · go_simp
            · refine (mayRefS_any _ s W (HSUP.out.drop.below hC)).mono ?_
              rintro e W' ⟨rfl, hg⟩
              rw [hm'.out]
              exact ⟨_, rfl, rfl, hg⟩
          simp only [Act.put, List.setIfInBounds_toArray, List.set_cons_zero, List.set_cons_succ]
          repeat (first
            | (refine wpAs_skip rfl ?_; simp only [Act.put, List.setIfInBounds_toArray, List.set_cons_zero, List.set_cons_succ])
            | (refine wpAs_pure (v := ?_) rfl rfl ?_ ?_; rotate_left; (intro W hC hE; clear hE; (obtain ⟨d0, d1, d2, d3, d4⟩ := hcells.out W hC); clear hC; go_simp; done); simp only [Act.put, List.setIfInBounds_toArray, List.set_cons_zero, List.set_cons_succ])
            | (refine wpAs_pure (v := ?_) rfl rfl ?_ ?_; rotate_left; (intro W hC hE; clear hE; (obtain ⟨d0, d1, d2, d3, d4⟩ := hcells.out W hC); clear hC; go_simp; with_reducible rfl); simp only [Act.put, List.setIfInBounds_toArray, List.set_cons_zero, List.set_cons_succ]))
          refine wpAs_act rfl rfl ?_ ?_
          · intro W hC hE
            clear hE
            refine does_enter (f := 46) (args := #[.agg #[.int .u32 x0, .int .i64 x1, .int .u32 x2, .int .u32 x3, .slice A1 j c1]]) ?_ ?_
            · go_simp
            · refine (refBlock_any _ s W (HSUP.out.drop.below hC) hm'.out).mono ?_
              rintro e W' ⟨u, rfl, ho, hb⟩
              rw [← hbl.out] at ho
              exact ⟨_, rfl, stab_by.mono (own_by ho) hC.size, hb⟩
          simp only [Act.put, List.setIfInBounds_toArray, List.set_cons_zero, List.set_cons_succ, envAdd]
          intro x75
          refine wpAs_pure (v := .string ⟨(blkS s).toArray⟩) rfl rfl (fun W hC hE => run_convert_op _ _ _ rfl rfl (rBy_str0 (stab_by.drop (hE.1 rfl)))) ?_
          simp only [Act.put, List.setIfInBounds_toArray, List.set_cons_zero, List.set_cons_succ]
          repeat (first
            | (refine wpAs_skip rfl ?_; simp only [Act.put, List.setIfInBounds_toArray, List.set_cons_zero, List.set_cons_succ])
            | (refine wpAs_pure (v := ?_) rfl rfl ?_ ?_; rotate_left; (intro W hC hE; clear hE; (have sb := rBy_str0 (stab_by.old HBY.out hC); have s1 := hst'.out); clear hC; go_simp; done); simp only [Act.put, List.setIfInBounds_toArray, List.set_cons_zero, List.set_cons_succ])
            | (refine wpAs_pure (v := ?_) rfl rfl ?_ ?_; rotate_left; (intro W hC hE; clear hE; (have sb := rBy_str0 (stab_by.old HBY.out hC); have s1 := hst'.out); clear hC; go_simp; with_reducible rfl); simp only [Act.put, List.setIfInBounds_toArray, List.set_cons_zero, List.set_cons_succ]))
          refine wpAs_end fun W hC hE => ?_
          clear hE
          have b9 := hb0.out W hC
          obtain ⟨a0, a1, a2, a3, a4, af, _⟩ := five_cells b9
          have Bx := BT.out.trans (hC.mono BT.out.size)
          have hno : okRe b = false := by rw [hok.out]; exact hdd.out
          have hE := Lib.hid (show reE b = 8 by rw [HE.out, hno]; rfl)
          have hS := Lib.hid (show reS b = zeroSp by rw [HS2.out, hno]; rfl)
          obtain ⟨W9, hW9, g9, gr9, gs9⟩ := put_five (u0 := .int .u32 0) (u1 := .int .i64 0) (u2 := .int .u32 0) (u3 := .int .u32 0) (u4 := .slice none 0 0) b9
          obtain ⟨k0, k1, k2, k3, k4, _, _⟩ := five_cells g9
          have B9 := Lib.hid (Bx.grown gr9 Bx.size (fun q e => by cases e; omega))
          replace b9 := Lib.hid b9
          replace hno := Lib.hid hno
          clear g9 gr9 Bx hC
          have s1 := hst'.out
          go_wp2_with fail
          exact bodyPost_ret (v := .tuple #[.agg #[.int .u32 0, .int .i64 0, .int .u32 0, .int .u32 0, .slice none 0 0], .int .i64 8]) (by simp [results, Try.results19, go_sem, k0, k1, k2, k3, k4]) rfl ⟨_, ret_two hE.out.symm, by rw [hS.out]; exact sup_zero _ _, B9.out⟩
        | true =>
          have hdd := Lib.hid hd
          have hst' := Lib.hid (show (blkS s == b) = true by rw [beq_dec]; exact hd)
          clear hd
          go_wp2_with fail
          refine wp_region_fx (by kernel_rfl) (fun W => Below wr.heap.size wr W) (fun i => match i with
              | 5 => some (fun v W => rBy (New wr.heap.size W) W [v] (blkS s))
              | _ => none) (fun i => match i with
              | 1 => some (.bool true)
              | _ => none) (by kernel_rfl) (Below.refl _ _).drew (fun w w' h hb => h.trans (hb.mono h.size)) ?tst ?_
          case tst =>
            intro j φ x W W' hp hx hb
            match j, hp with
            | 5, hp => cases hp; exact stab_by.new hx (Nat.le_refl _) hb
          repeat (first
            | (refine wpAs_skip rfl ?_; simp only [Act.put, List.setIfInBounds_toArray, List.set_cons_zero, List.set_cons_succ])
            | (refine wpAs_pure (v := ?_) rfl rfl ?_ ?_; rotate_left; (intro W hC hE; clear hE; (obtain ⟨d0, d1, d2, d3, d4⟩ := hcells.out W hC); clear hC; go_simp; done); simp only [Act.put, List.setIfInBounds_toArray, List.set_cons_zero, List.set_cons_succ])
            | (refine wpAs_pure (v := ?_) rfl rfl ?_ ?_; rotate_left; (intro W hC hE; clear hE; (obtain ⟨d0, d1, d2, d3, d4⟩ := hcells.out W hC); clear hC; go_simp; with_reducible rfl); simp only [Act.put, List.setIfInBounds_toArray, List.set_cons_zero, List.set_cons_succ]))
          refine wpAs_fixed rfl rfl rfl ?_ ?_
          · intro W hC hE
            refine does_enter (f := 45) (args := #[.agg #[.int .u32 x0, .int .i64 x1, .int .u32 x2, .int .u32 x3, .slice A1 j c1]]) ?_ ?_
            · go_simp
            · refine (mayRefS_any _ s W (HSUP.out.drop.below hC)).mono ?_
              rintro e W' ⟨rfl, hg⟩
              rw [hm'.out]
              exact ⟨_, rfl, rfl, hg⟩
          simp only [Act.put, List.setIfInBounds_toArray, List.set_cons_zero, List.set_cons_succ]
          repeat (first
            | (refine wpAs_skip rfl ?_; simp only [Act.put, List.setIfInBounds_toArray, List.set_cons_zero, List.set_cons_succ])
            | (refine wpAs_pure (v := ?_) rfl rfl ?_ ?_; rotate_left; (intro W hC hE; clear hE; (obtain ⟨d0, d1, d2, d3, d4⟩ := hcells.out W hC); clear hC; go_simp; done); simp only [Act.put, List.setIfInBounds_toArray, List.set_cons_zero, List.set_cons_succ])
            | (refine wpAs_pure (v := ?_) rfl rfl ?_ ?_; rotate_left; (intro W hC hE; clear hE; (obtain ⟨d0, d1, d2, d3, d4⟩ := hcells.out W hC); clear hC; go_simp; with_reducible rfl); simp only [Act.put, List.setIfInBounds_toArray, List.set_cons_zero, List.set_cons_succ]))
          refine wpAs_act rfl rfl ?_ ?_
          · intro W hC hE
            clear hE
            refine does_enter (f := 46) (args := #[.agg #[.int .u32 x0, .int .i64 x1, .int .u32 x2, .int .u32 x3, .slice A1 j c1]]) ?_ ?_
            · go_simp
            · refine (refBlock_any _ s W (HSUP.out.drop.below hC) hm'.out).mono ?_
              rintro e W' ⟨u, rfl, ho, hb⟩
              rw [← hbl.out] at ho
              exact ⟨_, rfl, stab_by.mono (own_by ho) hC.size, hb⟩
          simp only [Act.put, List.setIfInBounds_toArray, List.set_cons_zero, List.set_cons_succ, envAdd]
          intro x75
          refine wpAs_pure (v := .string ⟨(blkS s).toArray⟩) rfl rfl (fun W hC hE => run_convert_op _ _ _ rfl rfl (rBy_str0 (stab_by.drop (hE.1 rfl)))) ?_
          simp only [Act.put, List.setIfInBounds_toArray, List.set_cons_zero, List.set_cons_succ]
          repeat (first
            | (refine wpAs_skip rfl ?_; simp only [Act.put, List.setIfInBounds_toArray, List.set_cons_zero, List.set_cons_succ])
            | (refine wpAs_pure (v := ?_) rfl rfl ?_ ?_; rotate_left; (intro W hC hE; clear hE; (have sb := rBy_str0 (stab_by.old HBY.out hC); have s1 := hst'.out); clear hC; go_simp; done); simp only [Act.put, List.setIfInBounds_toArray, List.set_cons_zero, List.set_cons_succ])
            | (refine wpAs_pure (v := ?_) rfl rfl ?_ ?_; rotate_left; (intro W hC hE; clear hE; (have sb := rBy_str0 (stab_by.old HBY.out hC); have s1 := hst'.out); clear hC; go_simp; with_reducible rfl); simp only [Act.put, List.setIfInBounds_toArray, List.set_cons_zero, List.set_cons_succ]))
          refine wpAs_end fun W hC hE => ?_
          clear hE
          have b9 := hb0.out W hC
          obtain ⟨a0, a1, a2, a3, a4, af, _⟩ := five_cells b9
          have Bx := BT.out.trans (hC.mono BT.out.size)
          have hyes : okRe b = true := by rw [hok.out]; exact hdd.out
          have hE := Lib.hid (show reE b = 0 by rw [HE.out, hyes]; rfl)
          obtain ⟨W9, hW9, g9, gr9, gs9⟩ := put_five (u0 := .int .u32 x0) (u1 := .int .i64 x1) (u2 := .int .u32 x2) (u3 := .int .u32 x3) (u4 := .slice A1 j c1) b9
          obtain ⟨k0, k1, k2, k3, k4, _, _⟩ := five_cells g9
          have B9 := Lib.hid (Bx.grown gr9 Bx.size (fun q e => by cases e; omega))
          have hlow : w.heap.size ≤ wa.heap.size := by have := lt1.out; have := LA.out; omega
          have hfin := Lib.hid (show Sup (New w.heap.size W9) W9 (.agg #[.int .u32 x0, .int .i64 x1, .int .u32 x2, .int .u32 x3, .slice A1 j c1]) (reS b) from by
            rw [HS2.out, hyes, if_pos rfl, ← hsf.out]
            exact ((HSUP.out.new (Nat.le_refl _) hC).grown gr9 (fun q e => by cases e; have := lt1.out; have := LA.out; omega)).map fun p v hp hc => ⟨⟨Nat.le_trans hlow hp.1, hp.2⟩, hc⟩)
          obtain ⟨d0, d1, d2, d3, d4⟩ := hcells.out W hC
          replace b9 := Lib.hid b9
          replace hyes := Lib.hid hyes
          clear g9 gr9 Bx hC
          have s1 := hst'.out
          go_wp2_with fail
          exact bodyPost_ret (v := .tuple #[.agg #[.int .u32 x0, .int .i64 x1, .int .u32 x2, .int .u32 x3, .slice A1 j c1], .int .i64 0]) (by simp [results, Try.results19, go_sem, k0, k1, k2, k3, k4]) rfl ⟨_, ret_two hE.out.symm, hfin.out, B9.out⟩
end Go.Proofs.Ytdcgcnnofjekaaa

/-
  A bag's facts on superblocks. Conditions: those that each lemma states.
-/
namespace Go.Proofs.Ytdcgcnnofjekaaa
open Go.RowKit

/-- Five cells that are a box. -/
def Box5 (g : Nat) (a b c d e : Value) : World → Prop := fun w => w.cell? ⟨g, 0, none⟩ = some a ∧ w.cell? ⟨g, 1, none⟩ = some b ∧ w.cell? ⟨g, 2, none⟩ = some c ∧ w.cell? ⟨g, 3, none⟩ = some d ∧ w.cell? ⟨g, 4, none⟩ = some e ∧ g < w.heap.size
theorem lasts_box5 (g : Nat) (a b c d e : Value) : Lasts (Box5 g a b c d e) := fun w w' h hb => ⟨(hb.cell (p := ⟨g, 0, none⟩) h.2.2.2.2.2).trans h.1, (hb.cell (p := ⟨g, 1, none⟩) h.2.2.2.2.2).trans h.2.1, (hb.cell (p := ⟨g, 2, none⟩) h.2.2.2.2.2).trans h.2.2.1, (hb.cell (p := ⟨g, 3, none⟩) h.2.2.2.2.2).trans h.2.2.2.1, (hb.cell (p := ⟨g, 4, none⟩) h.2.2.2.2.2).trans h.2.2.2.2.1, Nat.lt_of_lt_of_le h.2.2.2.2.2 hb.size⟩
def OldS (v : Value) (s : Sp) : World → Prop := fun w => Sup (Old w) w v s
theorem lasts_oldS (v : Value) (s : Sp) : Lasts (OldS v s) := fun _ _ h hb => h.below hb
theorem bag_box5 {w w1 : World} {Fs : List (World → Prop)} (h : Bag w Fs) (hb : Below w.heap.size w w1) (a b c d e : Value) : ∃ w', w1.alloc (.cells #[a, b, c, d, e] 37) = w' ∧ Bag w' (Box5 w1.heap.size a b c d e :: Fs) ∧ Below w.heap.size w w' ∧ Below w1.heap.size w1 w' ∧ w1.heap.size < w'.heap.size := by
  obtain ⟨w2, e2, k1, k2, k3, k4, k5, k6, k7, _⟩ := box_five w1 a b c d e 37
  exact ⟨w2, e2, ((h.below hb).below k7).add ⟨k1, k2, k3, k4, k5, by omega⟩ (lasts_box5 _ _ _ _ _ _), hb.trans (k7.mono hb.size), k7, by omega⟩
/-- The value of a superblock, its list at A, c. -/
abbrev supV (s : Sp) (A : Option Addr) (c : Nat) : Value := .agg #[.int .u32 s.1, .int .i64 s.2.1, .int .u32 s.2.2.1, .int .u32 s.2.2.2.1, .slice A s.2.2.2.2.length c]
end Go.Proofs.Ytdcgcnnofjekaaa

/-
  The library's sort at superblocks, the newest first. Conditions: those that each lemma states.
-/
namespace Go.Proofs.Ytdcgcnnofjekaaa
open Go.Shelf Go.RowKit Go.Lib Go.Sort

theorem notNaN_any (n : Int) (w : World) : Calls Try.prog 64 #[.int .u32 n] w fun e w' => e = .returned (.bool false) ∧ w = w' := by
  have h : (n != n) = false := by simp
  go_enter Try.func64, Try.ntmps64
  go_wp2
  go_ret
  exact ⟨rfl, rfl⟩
def cmpI (a b : Int) : Int := if a < b then -1 else if b < a then 1 else 0
theorem compareU_any (a b : Int) (w : World) : Calls Try.prog 36 #[.int .u32 a, .int .u32 b] w fun e w' => e = .returned (.int .i64 (cmpI a b)) ∧ w = w' := by
  by_cases h1 : a < b
  · have hc := Lib.hid (show cmpI a b = -1 by simp [cmpI, h1])
    go_enter Try.func36, Try.ntmps36
    go_wp2_with (go_at_call 64; refine (notNaN_any _ _).mono ?_; rintro e w' ⟨rfl, rfl⟩)
    go_ret
    exact ⟨ret_int hc.out.symm, rfl⟩
  · by_cases h2 : b < a
    · have hc := Lib.hid (show cmpI a b = 1 by simp [cmpI, h1, h2])
      go_enter Try.func36, Try.ntmps36
      go_wp2_with (go_at_call 64; refine (notNaN_any _ _).mono ?_; rintro e w' ⟨rfl, rfl⟩)
      go_ret
      exact ⟨ret_int hc.out.symm, rfl⟩
    · have hc := Lib.hid (show cmpI a b = 0 by simp [cmpI, h1, h2])
      go_enter Try.func36, Try.ntmps36
      go_wp2_with (go_at_call 64; refine (notNaN_any _ _).mono ?_; rintro e w' ⟨rfl, rfl⟩)
      go_ret
      exact ⟨ret_int hc.out.symm, rfl⟩

/-- A superblock's cells, its list at A, of n, cap c. -/
abbrev SpV := Int × Int × Int × Int × Option Addr × Nat × Nat
/-- .. with what it reads as. -/
abbrev SpZ := SpV × Sp
def encS (z : SpZ) : List Value := [.int .u32 z.1.1, .int .i64 z.1.2.1, .int .u32 z.1.2.2.1, .int .u32 z.1.2.2.2.1, .slice z.1.2.2.2.2.1 z.1.2.2.2.2.2.1 z.1.2.2.2.2.2.2]
theorem encS_len (x : SpZ) : (encS x).length = 5 := rfl
theorem encS_one (x : SpZ) : ∀ v ∈ encS x, v.oneCell' = true := by
  intro v hv
  simp [encS] at hv
  rcases hv with rfl | rfl | rfl | rfl | rfl <;> rfl
/-- The newest first. -/
def cfS (x y : SpZ) : Int := cmpI y.1.1 x.1.1
theorem ltS (x y : SpZ) : ltOf cfS x y = decide (y.1.1 < x.1.1) := by
  unfold ltOf cfS cmpI
  by_cases h1 : y.1.1 < x.1.1
  · simp [h1]
  · by_cases h2 : x.1.1 < y.1.1 <;> simp [h1, h2]
theorem swoS : SWO (ltOf cfS) where
  irrefl x := by rw [ltS]; simp
  trans x y z h1 h2 := by rw [ltS] at *; simp at *; omega
  ntrans x y z h1 h2 := by rw [ltS] at *; simp at *; omega

theorem closureS (x y : SpZ) (W : World) : Calls Try.prog 35 #[.agg (encS x).toArray, .agg (encS y).toArray] W fun e w' => e = .returned (.int .i64 (cfS x y)) ∧ ∃ q os', w' = grow (W.drewN q) os' := by
  have hc := Lib.hid (show cfS x y = cmpI y.1.1 x.1.1 from rfl)
  obtain ⟨⟨x1, x2, x3, x4, x5, x6, x7⟩, xs⟩ := x
  obtain ⟨⟨y1, y2, y3, y4, y5, y6, y7⟩, ys⟩ := y
  show Calls Try.prog 35 #[.agg #[.int .u32 x1, .int .i64 x2, .int .u32 x3, .int .u32 x4, .slice x5 x6 x7], .agg #[.int .u32 y1, .int .i64 y2, .int .u32 y3, .int .u32 y4, .slice y5 y6 y7]] W _
  go_enter Try.func35, Try.ntmps35
  go_wp2_with (go_at_call 36; refine (compareU_any _ _ _).mono ?_; rintro e w' ⟨rfl, rfl⟩)
  go_ret
  exact ⟨ret_int hc.out.symm, 0, _, by rw [alloc_eq_grow, alloc_eq_grow, grow_grow]; rfl⟩
theorem cmpLaysS (blk off size : Nat) (w : World) : CmpLays Try.prog 35 #[] encS 5 cfS blk off size w := fun _ _ _ _ x y => closureS x y _

theorem sortS_any (blk off cap : Nat) (d : Array SpZ) (w : World) (hH : HoldsK encS 5 w blk off d) (hblk : blk < w.heap.size) (hsz : d.size < 1000000) :
    Calls Try.prog 34 #[.slice (some ⟨blk, off, none⟩) d.size cap, .func (.func 35) #[] #[]] w fun e w' =>
      e = .returned (.tuple #[]) ∧ ∃ d' n os, PermIn 0 d.size d d' ∧ SortedIn (ltOf cfS) 0 d.size d' ∧ w' = sortWorldK encS 5 w blk off n d' os := by
  have eg : ∀ args w, (callFunc 35 args).run Try.prog w = .ok (.enter 35 args) w := enters_of Try.func35 (by kernel_rfl) rfl
  exact AnyQ.slices_SortFunc sortSup 5 Try.isAgg37 Try.sizeOf37 encS encS_len encS_one cfS swoS 35 #[] blk off cap d w eg (cmpLaysS blk off d.size w) hH hblk (by omega)

/-! ### A row that is sorted -/
theorem sorted_cell {w : World} {g n : Nat} {os : Array Obj} (d : Array SpZ) {p : Addr} (hp : p.block < w.heap.size) (hne : p.block ≠ g) : (sortWorldK encS 5 w g 0 n d os).cell? p = w.cell? p ∧ (sortWorldK encS 5 w g 0 n d os).frozen? p = w.frozen? p := by
  have hb : (sortWorldK encS 5 w g 0 n d os).heap[p.block]? = w.heap[p.block]? := by
    unfold sortWorldK putRowK
    rw [heap_grow_old _ _ (by simpa using hp)]
    simp [putRow, mapBlock, Sort.ahead, Array.getElem?_modify, Ne.symm hne]
  exact ⟨World.cell?_of_block hb, World.frozen?_of_block hb⟩
theorem sorted_below {w : World} {g n lo : Nat} {os : Array Obj} (d : Array SpZ) (hlo : lo ≤ g) (hw : lo ≤ w.heap.size) : Go.RowKit.Below lo w (sortWorldK encS 5 w g 0 n d os) := by
  refine ⟨rfl, rfl, rfl, by simp [sortWorldK, putRowK, grow], fun k hk => ?_⟩
  unfold sortWorldK putRowK
  rw [heap_grow_old _ _ (by simp; omega)]
  have : g ≠ k := by omega
  simp [putRow, mapBlock, Sort.ahead, Array.getElem?_modify, this]

set_option maxRecDepth 100000 in
set_option maxHeartbeats 2000000 in
theorem sortS_row (lo : Nat) (w : World) (A : Option Addr) (c : Nat) (xs : List Sp) (h : RowOf rSp 5 37 lo w A c xs) (h0 : 0 < xs.length) (hs : xs.length < 1000000) (hlo : lo ≤ w.heap.size) :
    Calls Try.prog 34 #[.slice A xs.length c, .func (.func 35) #[] #[]] w fun e w' =>
      e = .returned (.tuple #[]) ∧ ∃ xs' : List Sp, xs'.Perm xs ∧ xs'.Pairwise (fun a b => b.1 ≤ a.1) ∧ rSl 5 rSp (New lo w') w' [.slice A xs.length c] xs' ∧ Go.RowKit.Below lo w w' := by
  obtain ⟨cs, hown, hcs⟩ := h
  obtain ⟨g, cap, cur, ev, hbg, hg, hnc, hcm, _, _⟩ : ∃ g cap cur, (Value.slice A xs.length c) = .slice (some ⟨g, 0, none⟩) xs.length cap ∧ lo ≤ g ∧ w.heap[g]? = some (.cells cur 37 (0, 0)) ∧ xs.length ≤ cap ∧ cap ≤ maxLen ∧ cur.size = cap * 5 ∧ cur.toList.take (xs.length * 5) = cs := by
    rcases hown.2 with ⟨_, e⟩ | h
    · omega
    · exact h
  cases ev
  unfold maxLen at hcm
  have hgl : g < w.heap.size := (Array.getElem?_eq_some_iff.1 hg).1
  have hfz : ∀ o, w.frozen? ⟨g, o, none⟩ = false := fun o => by simp [World.frozen?, hg]
  obtain ⟨zs, hzl, hz⟩ := list_of (n := xs.length) (p := fun i (z : SpZ) => (∀ j u, (encS z)[j]? = some u → cs[i * 5 + j]? = some u) ∧ xs[i]? = some z.2 ∧ rSp (NewBut lo (some ⟨g, 0, none⟩) w) w (encS z) z.2) (fun i hi => by
    obtain ⟨vs, e1, e2, e3⟩ := hcs i _ (List.getElem?_eq_getElem hi)
    obtain ⟨dv, rfl, e4, e5⟩ := rSp_open e3
    obtain ⟨D, dc, rfl, _⟩ := id (rInts_open e5)
    exact ⟨((xs[i].1, xs[i].2.1, xs[i].2.2.1, xs[i].2.2.2.1, D, xs[i].2.2.2.2.length, dc), xs[i]), e2, List.getElem?_eq_getElem hi, e3⟩)
  have hds : zs.toArray.size = xs.length := by simpa using hzl
  have hH : HoldsK encS 5 w g 0 zs.toArray := fun j hj => by
    rw [size_flatK, hds] at hj
    have hj5 : j / 5 < zs.length := by omega
    have hz1 : zs[j / 5]? = some zs[j / 5] := List.getElem?_eq_getElem hj5
    have hlt5 : j % 5 < (encS zs[j / 5]).length := by rw [encS_len]; exact Nat.mod_lt _ (by omega)
    have h1 := (hz _ _ hz1).1 (j % 5) _ (List.getElem?_eq_getElem hlt5)
    rw [show j / 5 * 5 + j % 5 = j by omega] at h1
    have h2 := hown.cells (g := g) rfl j _ h1
    rw [add_off] at h2
    rw [get_flatK _ _ _ _ (by rw [hds]; exact hj)]
    have e1 : zs.toArray[j / 5]! = zs[j / 5] := by
      rw [getElem!_pos zs.toArray (j / 5) (by simpa using hj5)]
      simp
    rw [e1, getElem!_pos (encS zs[j / 5]) (j % 5) hlt5]
    exact ⟨h2, hfz _⟩
  rw [← hds]
  refine (sortS_any g 0 c zs.toArray w hH hgl (by rw [hds]; exact hs)).mono ?_
  rintro e w' ⟨rfl, d', n, os, ⟨hp1, _, hp3⟩, hsd, rfl⟩
  have hd's : d'.size = xs.length := by rw [hp1, hds]
  have hperm : d'.toList.Perm zs := by
    have e1 : d'.extract 0 zs.toArray.size = d' := by rw [← hp1]; simp
    have e2 : zs.toArray.extract 0 zs.toArray.size = zs.toArray := by simp
    rw [e1, e2] at hp3
    simpa using hp3
  have hsnd : zs.map Prod.snd = xs := by
    apply List.ext_getElem?
    intro i
    by_cases hi : i < xs.length
    · have hz1 : zs[i]? = some (zs[i]'(by omega)) := List.getElem?_eq_getElem _
      rw [List.getElem?_map, hz1, (hz _ _ hz1).2.1]
      rfl
    · rw [List.getElem?_eq_none (by simp; omega), List.getElem?_eq_none (by omega)]
  have hmem : ∀ z ∈ d'.toList, rSp (NewBut lo (some ⟨g, 0, none⟩) w) w (encS z) z.2 := fun z hz1 => by
    obtain ⟨i, hi⟩ := List.getElem?_of_mem (hperm.mem_iff.1 hz1)
    exact (hz i z hi).2.2
  have hgen : ∀ z ∈ d'.toList, z.1.1 = z.2.1 := fun z hz1 => by
    obtain ⟨_, e, _, _⟩ := rSp_open (hmem z hz1)
    simp [encS] at e
    exact e.1
  have hHn : HoldsK encS 5 (putRowK encS 5 (Sort.ahead w n) g 0 d') g 0 d' := holdsK_putRowK encS 5 (Sort.ahead w n) g 0 zs.toArray d' hH hp1
  have hH2 : HoldsK encS 5 (sortWorldK encS 5 w g 0 n d' os) g 0 d' := holdsK_grow encS 5 _ os g 0 d' (by simpa [putRowK] using hgl) hHn
  have hB := sorted_below (n := n) (os := os) d' hbg hlo
  have hsz : w.heap.size ≤ (sortWorldK encS 5 w g 0 n d' os).heap.size := hB.size
  refine ⟨rfl, d'.toList.map Prod.snd, by rw [← hsnd]; exact hperm.map _, ?_, ?_, hB⟩
  · rw [List.pairwise_map, List.pairwise_iff_getElem]
    intro i j hi hj hij
    have hi' : i < d'.size := by simpa using hi
    have hj' : j < d'.size := by simpa using hj
    have h1 := hsd i j (Nat.zero_le _) hij (by rw [← hp1]; exact hj')
    rw [ltS, getElem!_pos d' i hi', getElem!_pos d' j hj'] at h1
    have h2 := hgen d'[i] (by simp)
    have h3 := hgen d'[j] (by simp)
    simp at h1
    simp
    omega
  · refine ⟨some ⟨g, 0, none⟩, c, by simp; omega, by simp; omega, hcm, fun i x hi => ?_⟩
    have hil : i < d'.size := by
      have := (List.getElem?_eq_some_iff.1 hi).1
      simpa using this
    rw [List.getElem?_map, List.getElem?_eq_getElem (by simpa using hil)] at hi
    cases hi
    have hz1 := hmem d'[i] (by simp)
    refine ⟨_, encS d'[i], rfl, rfl, fun j v hj => ?_, ?_⟩
    · have hj5 : j < 5 := by have := (List.getElem?_eq_some_iff.1 hj).1; simpa [encS] using this
      obtain ⟨k1, k2⟩ := hH2.cell hil hj5
      rw [add_off, Nat.zero_add]
      rw [Nat.zero_add] at k1 k2
      rw [getElem!_pos d' i hil, getElem!_pos (encS d'[i]) j (by rw [encS_len]; exact hj5)] at k1
      rw [List.getElem?_eq_getElem (by rw [encS_len]; exact hj5)] at hj
      cases hj
      exact ⟨⟨hbg, Nat.lt_of_lt_of_le hgl hsz, k2⟩, k1⟩
    · refine stab_sp _ _ _ _ _ _ (fun p v hp hc => ?_) (by simpa using hz1)
      have hne : p.block ≠ g := fun e => hp.2 (by simp [e])
      obtain ⟨k1, k2⟩ := sorted_cell (n := n) (os := os) d' hp.1.2.1 hne
      exact ⟨⟨hp.1.1, Nat.lt_of_lt_of_le hp.1.2.1 hsz, k2.trans hp.1.2.2⟩, k1.trans hc⟩
end Go.Proofs.Ytdcgcnnofjekaaa

/-
  Package ring: standing. Conditions: those that each lemma states.
-/
namespace Go.Proofs.Ytdcgcnnofjekaaa
open Go.RowKit

/-- The superblock that stands in a slot. -/
noncomputable def standS (d : Dk) (i : Nat) : Option Sp := if reE (seenD d i) = 0 then (if (reS (seenD d i)).1 % 4 = (i : Int) then some (reS (seenD d i)) else none) else none
theorem standS_bad {d : Dk} {i : Nat} (h : reE (seenD d i) ≠ 0) : standS d i = none := by simp [standS, h]
theorem standS_far {d : Dk} {i : Nat} (h : (reS (seenD d i)).1 % 4 ≠ (i : Int)) : standS d i = none := by simp [standS, h]
theorem standS_yes {d : Dk} {i : Nat} (h : reE (seenD d i) = 0) (h2 : (reS (seenD d i)).1 % 4 = (i : Int)) : standS d i = some (reS (seenD d i)) := by simp [standS, h, h2]
theorem seenD_len {d : Dk} (hm : mayB d = true) {k : Nat} (hk : k < 256) : (seenD d k).length = 128 := by
  obtain ⟨h1, _, h3, h4⟩ := may_of hm
  refine seenW_length (h3 k _ (by rw [List.getElem?_eq_getElem (by omega)]; simp [List.getElem?_eq_getElem (show k < d.1.length by omega)])) (fun x hx => ?_)
  obtain ⟨j, hj⟩ := List.getElem?_of_mem hx
  exact (h4 j x hj).2.2

set_option maxRecDepth 100000 in
set_option maxHeartbeats 8000000 in
theorem standing_any (v : Value) (d : Dk) (i : Nat) (hi : i < 4) (w : World) (h : Dsk (Old w) w v d) (hm : mayB d = true) :
    Calls Try.prog 33 #[v, .int .i64 i] w fun e w' => ∃ u, e = .returned (.tuple #[u, .bool (standS d i).isSome]) ∧ Sup (New w.heap.size w') w' u ((standS d i).getD zeroSp) ∧ Below w.heap.size w w' := by
  obtain ⟨a, b, rfl, _⟩ := id h
  obtain ⟨w1, hw1, b1, hs1, hB1⟩ := box_pair' w a b 30
  obtain ⟨w2, hw2, _, _, _, _, _, hs2, hB2, b2⟩ := box_five w1 (.int .u32 0) (.int .i64 0) (.int .u32 0) (.int .u32 0) (.slice none 0 0) 37
  obtain ⟨f1, f2, _, _⟩ := two_cells b1
  have lt1 : w.heap.size < w1.heap.size := by omega
  have lt2 : w1.heap.size < w2.heap.size := by omega
  have k1 := (hB2.cell (p := ⟨w.heap.size, 0, none⟩) lt1).trans f1
  have k2 := (hB2.cell (p := ⟨w.heap.size, 1, none⟩) lt1).trans f2
  have B2 := Lib.hid (hB1.trans (hB2.mono hB1.size))
  have H2 := Lib.hid ((h.below hB1).below hB2)
  have hm' := Lib.hid hm
  have hlen := Lib.hid (seenD_len hm (show i < 256 by omega))
  have LT := Lib.hid lt1
  replace hw2 := Lib.hid hw2
  replace b2 := Lib.hid b2
  replace hs1 := Lib.hid hs1
  replace hs2 := Lib.hid hs2
  clear f1 f2 b1 hB1 hB2 h hm
  go_enter Try.func33, Try.ntmps33
  go_upto_region 1 with fail
  rw [hw2.out]
  clear hw1 hw2
  go_wp2_with fail
  with_reducible refine (read_ok _ d i _ H2.out hm'.out (by omega)).mono ?_
  rintro e3 w3 ⟨u, rfl, hu, hb3⟩
  have B3 := Lib.hid (B2.out.trans (hb3.mono B2.out.size))
  have C3 := Lib.hid hb3
  obtain ⟨bs, hbs⟩ : ∃ bs, seenD d i = bs := ⟨_, rfl⟩
  have HS : Hid (standS d i = if reE bs = 0 then (if (reS bs).1 % 4 = (i : Int) then some (reS bs) else none) else none) := Lib.hid (by rw [← hbs]; rfl)
  rw [hbs] at hu hlen
  replace hbs := Lib.hid hbs
  obtain ⟨E, ce, rfl, _⟩ := id (rBy_open hu)
  have hu' := Lib.hid (stab_by.drop hu)
  clear hu hb3
  go_wp2_with fail
  with_reducible refine (ringRead_any _ bs _ (by rw [hlen.out]; omega) hu'.out).mono ?_
  rintro e4 w4 ⟨u4, rfl, hu4, hb4⟩
  have B4 := Lib.hid (B3.out.trans (hb4.mono B3.out.size))
  have C4 := Lib.hid (C3.out.trans (hb4.mono C3.out.size))
  obtain ⟨s, hs⟩ : ∃ s, reS bs = s := ⟨_, rfl⟩
  obtain ⟨q, hq⟩ : ∃ q, reE bs = q := ⟨_, rfl⟩
  rw [hs] at hu4 HS
  rw [hq] at HS ⊢
  replace hs := Lib.hid hs
  replace hq := Lib.hid hq
  obtain ⟨D, dc, rfl, hin, _⟩ := id hu4.open
  obtain ⟨w5, hw5, z0, z1, z2, z3, z4, hs5, hB5, _⟩ := box_five w4 (.int .u32 s.1) (.int .i64 s.2.1) (.int .u32 s.2.2.1) (.int .u32 s.2.2.2.1) (.slice D s.2.2.2.2.length dc) 37
  have hu5 := Lib.hid (hu4.new (Nat.le_refl _) hB5)
  have B5 := Lib.hid (B4.out.trans (hB5.mono B4.out.size))
  have C5 := Lib.hid (C4.out.trans (hB5.mono C4.out.size))
  have lo3 := Lib.hid (Nat.lt_of_lt_of_le lt2 C3.out.size)
  obtain ⟨⟨g0, g1⟩, _, _, _⟩ := hin
  replace hs5 := Lib.hid hs5
  have b9 := (C5.out.block w1.heap.size lt2).trans b2.out
  obtain ⟨a0, a1, a2, a3, a4, af, _⟩ := five_cells b9
  clear hb4 hB5 hu4 k1 k2
  go_upto_region 5 with fail
  clear hw5
  have bad : standS d i = none → ∃ W9 : World, (((((w5.setCell ⟨w1.heap.size, 0, none⟩ (.int .u32 0)).setCell ⟨w1.heap.size, 1, none⟩ (.int .i64 0)).setCell ⟨w1.heap.size, 2, none⟩ (.int .u32 0)).setCell ⟨w1.heap.size, 3, none⟩ (.int .u32 0)).setCell ⟨w1.heap.size, 4, none⟩ (.slice none 0 0)) = W9 ∧
      W9.heap[w1.heap.size]? = some (.cells #[.int .u32 0, .int .i64 0, .int .u32 0, .int .u32 0, .slice none 0 0] 37 (0, 0)) ∧ Hid ((standS d i).isSome = false ∧ (standS d i).getD zeroSp = zeroSp ∧ Below w.heap.size w W9) := fun hno => by
    obtain ⟨W9, hW9, g9, gr9, gs9⟩ := put_five (u0 := .int .u32 0) (u1 := .int .i64 0) (u2 := .int .u32 0) (u3 := .int .u32 0) (u4 := .slice none 0 0) b9
    exact ⟨W9, hW9, g9, Lib.hid ⟨by rw [hno]; rfl, by rw [hno]; rfl, B5.out.grown gr9 B5.out.size (fun q e => by cases e; have := LT.out; omega)⟩⟩
  replace bad := Lib.hid bad
  replace b9 := Lib.hid b9
  by_cases hq0 : q = 0
  case neg =>
    obtain ⟨W9, hW9, g9, hz⟩ := bad.out (by rw [HS.out, if_neg hq0])
    obtain ⟨k0, k1, k2, k3, k4, _, _⟩ := five_cells g9
    have ht : (q != 0) = true := by simpa using hq0
    replace g9 := Lib.hid g9
    clear hq0
    go_wp2_with fail
    exact bodyPost_ret (v := .tuple #[.agg #[.int .u32 0, .int .i64 0, .int .u32 0, .int .u32 0, .slice none 0 0], .bool false]) (by simp [results, Try.results33, go_sem, k0, k1, k2, k3, k4]) rfl ⟨_, by rw [hz.out.1], by rw [hz.out.2.1]; exact sup_zero _ _, hz.out.2.2⟩
  subst hq0
  obtain ⟨y, hy⟩ : ∃ y, s.1 % 4 = y := ⟨_, rfl⟩
  have hyy := Lib.hid hy
  by_cases hy4 : y = (i : Int)
  case neg =>
    obtain ⟨W9, hW9, g9, hz⟩ := bad.out (by rw [HS.out, if_pos rfl, hy, if_neg hy4])
    obtain ⟨k0, k1, k2, k3, k4, _, _⟩ := five_cells g9
    have ht : (y != (i : Int)) = true := by simpa using hy4
    replace g9 := Lib.hid g9
    clear hy4 hy
    go_wp2_with fail
    with_reducible refine (slot_any s.1 g0 g1 _).mono ?_
    rintro e6 w6 ⟨rfl, rfl⟩
    rw [hyy.out]
    go_wp2_with fail
    exact bodyPost_ret (v := .tuple #[.agg #[.int .u32 0, .int .i64 0, .int .u32 0, .int .u32 0, .slice none 0 0], .bool false]) (by simp [results, Try.results33, go_sem, k0, k1, k2, k3, k4]) rfl ⟨_, by rw [hz.out.1], by rw [hz.out.2.1]; exact sup_zero _ _, hz.out.2.2⟩
  have hst := Lib.hid (show standS d i = some s by rw [HS.out, if_pos rfl, hy, if_pos hy4])
  obtain ⟨W9, hW9, g9, gr9, gs9⟩ := put_five (u0 := .int .u32 s.1) (u1 := .int .i64 s.2.1) (u2 := .int .u32 s.2.2.1) (u3 := .int .u32 s.2.2.2.1) (u4 := .slice D s.2.2.2.2.length dc) b9.out
  obtain ⟨k0, k1, k2, k3, k4, _, _⟩ := five_cells g9
  have hfin : Hid (Sup (New w.heap.size W9) W9 (.agg #[.int .u32 s.1, .int .i64 s.2.1, .int .u32 s.2.2.1, .int .u32 s.2.2.2.1, .slice D s.2.2.2.2.length dc]) ((standS d i).getD zeroSp) ∧ Below w.heap.size w W9) := Lib.hid ⟨by
    rw [hst.out]
    exact (hu5.out.grown gr9 (fun q e => by cases e; exact lo3.out)).map fun p v hp hc => ⟨⟨by have := hp.1; have := lo3.out; have := LT.out; omega, hp.2⟩, hc⟩, B5.out.grown gr9 B5.out.size (fun q e => by cases e; have := LT.out; omega)⟩
  have ht : (y != (i : Int)) = false := by simpa using hy4
  replace g9 := Lib.hid g9
  clear hy4 hy gr9
  go_wp2_with fail
  with_reducible refine (slot_any s.1 g0 g1 _).mono ?_
  rintro e6 w6 ⟨rfl, rfl⟩
  rw [hyy.out]
  go_wp2_with fail
  exact bodyPost_ret (v := .tuple #[.agg #[.int .u32 s.1, .int .i64 s.2.1, .int .u32 s.2.2.1, .int .u32 s.2.2.2.1, .slice D s.2.2.2.2.length dc], .bool true]) (by simp [results, Try.results33, go_sem, k0, k1, k2, k3, k4]) rfl ⟨_, by rw [hst.out]; rfl, hfin.out.1, hfin.out.2⟩
end Go.Proofs.Ytdcgcnnofjekaaa

/-
  Package ring: Find; which superblocks stand, the newest first. Conditions: those that each lemma states.
-/
namespace Go.Proofs.Ytdcgcnnofjekaaa
open Go.RowKit

noncomputable def stands (d : Dk) : List Sp := (List.range 4).filterMap (standS d)
def insG : List Sp → Sp → List Sp
  | [], s => [s]
  | x :: r, s => if x.1 < s.1 then s :: x :: r else x :: insG r s
def sortG (l : List Sp) : List Sp := l.foldl insG []
noncomputable def findS (d : Dk) : List Sp := if mayB d then sortG (stands d) else []
noncomputable def findE (d : Dk) : Int := if mayB d then (if (stands d).length = 0 then 40 else 0) else 8
theorem insG_perm (s : Sp) : ∀ l : List Sp, (insG l s).Perm (s :: l)
  | [] => List.Perm.refl _
  | x :: r => by
    unfold insG
    split
    · exact List.Perm.refl _
    · exact ((insG_perm s r).cons x).trans (List.Perm.swap s x r)
theorem foldG_perm : ∀ (l a : List Sp), (l.foldl insG a).Perm (l ++ a)
  | [], a => List.Perm.refl _
  | x :: r, a => by
    rw [List.foldl_cons, List.cons_append]
    exact (foldG_perm r (insG a x)).trans (((insG_perm x a).append_left r).trans List.perm_middle)
theorem sortG_perm (l : List Sp) : (sortG l).Perm l := by
  have := foldG_perm l []
  rwa [List.append_nil] at this
abbrev Down (a b : Sp) : Prop := b.1 ≤ a.1
theorem insG_down (s : Sp) : ∀ l : List Sp, l.Pairwise Down → (insG l s).Pairwise Down
  | [], _ => by simp [insG]
  | x :: r, h => by
    unfold insG
    rw [List.pairwise_cons] at h
    split
    · rename_i hlt
      rw [List.pairwise_cons]
      refine ⟨fun y hy => ?_, List.pairwise_cons.2 h⟩
      rcases List.mem_cons.1 hy with rfl | hy
      · exact Int.le_of_lt hlt
      · have := h.1 y hy
        show y.1 ≤ s.1
        omega
    · rename_i hlt
      rw [List.pairwise_cons]
      refine ⟨fun y hy => ?_, insG_down s r h.2⟩
      rcases List.mem_cons.1 ((insG_perm s r).mem_iff.1 hy) with rfl | hy
      · show y.1 ≤ x.1
        omega
      · exact h.1 y hy
theorem foldG_down : ∀ (l a : List Sp), a.Pairwise Down → (l.foldl insG a).Pairwise Down
  | [], _, h => h
  | x :: r, a, h => foldG_down r _ (insG_down x a h)
theorem sortG_down (l : List Sp) : (sortG l).Pairwise Down := foldG_down l [] List.Pairwise.nil
theorem down_unique : ∀ {l m : List Sp}, l.Perm m → l.Pairwise Down → m.Pairwise Down → (∀ a ∈ l, ∀ b ∈ l, a.1 = b.1 → a = b) → l = m
  | [], m, h, _, _, _ => (List.nil_perm.1 h).symm
  | a :: l, [], h, _, _, _ => absurd (List.Perm.symm h) (by simp)
  | a :: l, b :: m, h, hl, hm, hu => by
    rw [List.pairwise_cons] at hl hm
    have e : a = b := by
      have h1 : a ∈ b :: m := h.mem_iff.1 (List.mem_cons_self ..)
      have h2 : b ∈ a :: l := h.mem_iff.2 (List.mem_cons_self ..)
      refine hu a (List.mem_cons_self ..) b h2 ?_
      have g1 : a.1 ≤ b.1 := by
        rcases List.mem_cons.1 h1 with rfl | h1
        · exact Int.le_refl _
        · exact hm.1 a h1
      have g2 : b.1 ≤ a.1 := by
        rcases List.mem_cons.1 h2 with rfl | h2
        · exact Int.le_refl _
        · exact hl.1 b h2
      omega
    subst e
    rw [down_unique (List.Perm.cons_inv h) hl.2 hm.2 (fun x hx y hy => hu x (List.mem_cons_of_mem _ hx) y (List.mem_cons_of_mem _ hy))]
theorem stand_slot {d : Dk} {i : Nat} {s : Sp} (h : standS d i = some s) : s.1 % 4 = (i : Int) := by
  unfold standS at h
  split at h
  · split at h
    · cases h; assumption
    · cases h
  · cases h
theorem stands_mem {d : Dk} {s : Sp} (h : s ∈ stands d) : ∃ i, i < 4 ∧ standS d i = some s := by
  obtain ⟨i, hi, he⟩ := List.mem_filterMap.1 h
  exact ⟨i, List.mem_range.1 hi, he⟩
theorem stands_inj (d : Dk) : ∀ a ∈ stands d, ∀ b ∈ stands d, a.1 = b.1 → a = b := fun a ha b hb e => by
  obtain ⟨i, _, hi⟩ := stands_mem ha
  obtain ⟨j, _, hj⟩ := stands_mem hb
  have h1 := stand_slot hi
  have h2 := stand_slot hj
  have : i = j := by omega
  subst this
  rw [hi] at hj
  cases hj
  rfl
theorem stands_sorted {d : Dk} {xs : List Sp} (h : xs.Perm (stands d)) (hd : xs.Pairwise Down) : xs = sortG (stands d) :=
  down_unique (h.trans (sortG_perm _).symm) hd (sortG_down _) (fun a ha b hb e => stands_inj d a (h.mem_iff.1 ha) b (h.mem_iff.1 hb) e)
noncomputable def standsTo (d : Dk) (k : Nat) : List Sp := (List.range k).filterMap (standS d)
theorem standsTo_succ (d : Dk) (k : Nat) : standsTo d (k + 1) = standsTo d k ++ (match standS d k with | some s => [s] | none => []) := by
  unfold standsTo
  rw [List.range_succ, List.filterMap_append]
  cases h : standS d k <;> simp [h]
theorem standsTo_length (d : Dk) (k : Nat) : (standsTo d k).length ≤ k := by
  have := List.length_filterMap_le (standS d) (List.range k)
  simpa [standsTo] using this

theorem super_info0 : (Try.prog.info? 37).map (fun i => (i.zero, i.size, i.bytes)) = some (some (.agg #[.int .u32 0, .int .i64 0, .int .u32 0, .int .u32 0, .slice none 0 0]), 5, 48) := by kernel_rfl
theorem sups_push {w : World} {lo : Nat} {A : Option Addr} {c : Nat} {xs : List Sp} (h : RowOf rSp 5 37 lo w A c xs) (g : Nat) (s : Sp) (D : Option Addr) (dc : Nat) (m : Nat) (hg : w.heap[g]? = some (.cells #[.int .u32 s.1, .int .i64 s.2.1, .int .u32 s.2.2.1, .int .u32 s.2.2.2.1, .slice D s.2.2.2.2.length dc] 37 (0, 0))) (hs : xs.length < 100000) (hbase : lo ≤ w.heap.size) (hx : Sup (NewBut lo A w) w (supV s D dc) s) :
    ∃ A' c' w', (Builtin.append_ #[23, 23] 23 #[.slice A xs.length c, .slice (some ⟨g, 0, none⟩) 1 m]).run Try.prog w = .ok (.slice A' (xs.length + 1) c') w' ∧ RowOf rSp 5 37 lo w' A' c' (xs ++ [s]) ∧ w.grownBy w' (A.map (·.block)) ∧ Below lo w w' := by
  obtain ⟨i0, hi, hz0, hz1, hz2⟩ := info_parts super_info0
  exact RowOf.push stab_sp h 23 23 i0 (.agg #[.int .u32 0, .int .i64 0, .int .u32 0, .int .u32 0, .slice none 0 0]) 48 Try.underlying23 hi hz0 hz1 hz2 rfl (by decide) ⟨g, 0, none⟩ m _ s rfl (World.news_of_block (cs := #[.int .u32 s.1, .int .i64 s.2.1, .int .u32 s.2.2.1, .int .u32 s.2.2.2.1, .slice D s.2.2.2.2.length dc]) hg) (fun u hu => by
    simp at hu
    rcases hu with rfl | rfl | rfl | rfl | rfl <;> rfl) (by unfold maxLen; omega) (by omega) hbase hx.cells
theorem rSp_nil_new (lo : Nat) (w : World) : rSl 5 rSp (New lo w) w [.slice none 0 0] [] := ⟨none, 0, rfl, by simp, by omega, fun i x h => by simp at h⟩

set_option maxRecDepth 100000 in
set_option maxHeartbeats 8000000 in
theorem find_any (v : Value) (d : Dk) (w : World) (h : Dsk (Old w) w v d) :
    Calls Try.prog 11 #[v] w fun e w' => ∃ u, e = .returned (.tuple #[u, .int .i64 (findE d)]) ∧ rSl 5 rSp (New w.heap.size w') w' [u] (findS d) ∧ Below w.heap.size w w' := by
  obtain ⟨a, b, rfl, _⟩ := id h
  obtain ⟨w1, hw1, b1, hs1, hB1⟩ := box_pair' w a b 30
  obtain ⟨f1, f2, _, lt1⟩ := two_cells b1
  have H1 := Lib.hid (h.below hB1)
  have B1 := Lib.hid hB1
  replace hs1 := Lib.hid hs1
  clear h hB1 b1
  go_enter Try.func11, Try.ntmps11
  go_upto_region 1 with fail
  clear hw1
  go_wp2_with fail
  with_reducible refine (check_any _ d _ H1.out).mono ?_
  rintro e2 w2 ⟨rfl, hb2⟩
  have B2 := Lib.hid (B1.out.trans (hb2.mono B1.out.size))
  have C2 := Lib.hid hb2
  clear hb2
  cases hm : mayB d with
  | false =>
    have hc := Lib.hid (chk_bad hm)
    have hE := Lib.hid (show findE d = 8 by simp [findE, hm])
    have hS := Lib.hid (show findS d = [] by simp [findS, hm])
    rw [hc.out]
    replace hm := Lib.hid hm
    go_wp2_with fail
    go_ret2
    exact ⟨.slice none 0 0, ret_two hE.out.symm, by rw [hS.out]; exact rSp_nil_new _ _, B2.out⟩
  | true =>
    have hc := Lib.hid (chk_ok hm)
    have hE := Lib.hid (show findE d = if (stands d).length = 0 then 40 else 0 by simp [findE, hm])
    have hS := Lib.hid (show findS d = sortG (stands d) by simp [findS, hm])
    rw [hc.out]
    have hm' := Lib.hid hm
    have lt2 := Lib.hid (show w.heap.size < w2.heap.size from Nat.lt_of_lt_of_le lt1 C2.out.size)
    have lt1' := Lib.hid lt1
    have hlo := Lib.hid (show w.heap.size ≤ w1.heap.size from Nat.le_of_lt lt1)
    clear hm
    go_wp2_with fail
    go_loopw [14, 5] (fun i u wr => ∃ k : Nat, k ≤ 4 ∧ i = .int .i64 k ∧ Below w1.heap.size w1 wr ∧ ∃ (A : Option Addr) (c : Nat), u = .slice A (standsTo d k).length c ∧ RowOf rSp 5 37 w1.heap.size wr A c (standsTo d k)) (fun i _ _ => 4 - (intOf i).toNat)
    case atStart => exact ⟨0, by omega, rfl, C2.out, none, 0, rfl, RowOf.nil _ _ _ _ _⟩
    case round =>
      obtain ⟨k, hk, rfl, hB, A, c, rfl, hrow⟩ := hrel
      have k1 := (hB.cell (p := ⟨w.heap.size, 0, none⟩) lt1).trans f1
      have k2 := (hB.cell (p := ⟨w.heap.size, 1, none⟩) lt1).trans f2
      have C := Lib.hid hB
      have hdk := Lib.hid (H1.out.below hB)
      replace hrow := Lib.hid hrow
      have hln := Lib.hid (standsTo_length d k)
      have hsu := Lib.hid (standsTo_succ d k)
      obtain ⟨xs, hxs⟩ : ∃ xs, standsTo d k = xs := ⟨_, rfl⟩
      rw [hxs] at hrow hln hsu ⊢
      replace hxs := Lib.hid hxs
      clear hB
      by_cases hlt : k < 4
      · go_wp2_with fail
        with_reducible refine (standing_any _ d k hlt _ hdk.out hm'.out).mono ?_
        rintro e3 w3 ⟨u3, rfl, hu3, hb3⟩
        have C3 := Lib.hid (C.out.trans (hb3.mono C.out.size))
        have row3 := Lib.hid (hrow.out.below stab_sp hb3)
        obtain ⟨s, hs⟩ : ∃ s, (standS d k).getD zeroSp = s := ⟨_, rfl⟩
        rw [hs] at hu3
        obtain ⟨D, dc, rfl, _⟩ := id hu3.open
        obtain ⟨w4, hw4, z0, z1, z2, z3, z4, hs4, hB4, b4⟩ := box_five w3 (.int .u32 s.1) (.int .i64 s.2.1) (.int .u32 s.2.2.1) (.int .u32 s.2.2.2.1) (.slice D s.2.2.2.2.length dc) 37
        have C4 := Lib.hid (C3.out.trans (hB4.mono C3.out.size))
        have row4 := row3.out.below stab_sp hB4
        have hu4 := hu3.new (Nat.le_refl _) hB4
        have SZ := Lib.hid (show w1.heap.size ≤ wr.heap.size ∧ wr.heap.size ≤ w3.heap.size from ⟨C.out.size, hb3.size⟩)
        cases hst : standS d k with
        | none =>
          have hap := Lib.hid (show standsTo d (k + 1) = xs by rw [hsu.out, hst, List.append_nil])
          replace hs := Lib.hid hs
          replace hst := Lib.hid hst
          replace row4 := Lib.hid row4
          replace b4 := Lib.hid b4
          replace hs4 := Lib.hid hs4
          clear hb3 hu3 hu4 hB4 z0 z1 z2 z3 z4
          go_wp2_with fail
          go_roundw
          case rel => exact ⟨k + 1, by omega, by go_num, C4.out, A, c, by rw [hap.out], by rw [hap.out]; exact row4.out⟩
          case measure => simp [intOf]; omega
        | some s' =>
          have hap := Lib.hid (show standsTo d (k + 1) = xs ++ [s] by rw [hsu.out, ← hs, hst]; rfl)
          replace hs := Lib.hid hs
          replace hst := Lib.hid hst
          -- one more
          obtain ⟨w5, hw5, _, _, _, _, _, hs5, hB5, b5⟩ := box_five w4 (.int .u32 s.1) (.int .i64 s.2.1) (.int .u32 s.2.2.1) (.int .u32 s.2.2.2.1) (.slice D s.2.2.2.2.length dc) 37
          have row5 := row4.below stab_sp hB5
          have hu5 := hu4.new (Nat.le_refl _) hB5
          have hlo5 : w1.heap.size ≤ w5.heap.size := by have := SZ.out; have := hB4.size; have := hB5.size; omega
          obtain ⟨A6, c6, w6, hr6, row6, gr6, ba6⟩ := sups_push row5 w4.heap.size s D dc 1 b5 (by have := hln.out; omega) hlo5 (hu5.map fun p v hp hc => ⟨hrow.out.but (Nat.le_refl _) SZ.out.1 hp, hc⟩)
          have C6 := Lib.hid ((C4.out.trans (hB5.mono C4.out.size)).trans (ba6))
          have H6 := Lib.hid hr6
          replace row6 := Lib.hid row6
          replace b4 := Lib.hid b4
          replace b5 := Lib.hid b5
          replace hs4 := Lib.hid hs4
          replace hs5 := Lib.hid hs5
          clear hb3 hu3 hu4 hu5 hB4 hB5 row4 row5 gr6 ba6 hr6 hlo5
          go_wp2_with (at_builtin; refine wpList_append_run rfl _ _ _ rfl rfl rfl H6.out ?_; clear H6)
          go_roundw
          case rel => exact ⟨k + 1, by omega, by go_num, C6.out, A6, c6, by rw [hap.out, List.length_append]; rfl, by rw [hap.out]; exact row6.out⟩
          case measure => simp [intOf]; omega
      · have hk4 : k = 4 := by omega
        have hst := Lib.hid (show stands d = xs by rw [← hxs.out, hk4]; rfl)
        have BW := Lib.hid (B1.out.trans (C.out.mono B1.out.size))
        clear hk4
        by_cases h0 : xs.length = 0
        · have hE0 := Lib.hid (show findE d = 40 by rw [hE.out, hst.out, if_pos h0])
          have hS0 := Lib.hid (show findS d = [] by rw [hS.out, hst.out, List.eq_nil_of_length_eq_zero h0]; rfl)
          have ht : ((xs.length : Int) == 0) = true := by simp [h0]
          clear h0
          go_wp2_with fail
          go_ret2
          exact ⟨.slice none 0 0, ret_two hE0.out.symm, by rw [hS0.out]; exact rSp_nil_new _ _, BW.out⟩
        · have hE0 := Lib.hid (show findE d = 0 by rw [hE.out, hst.out, if_neg h0])
          have ht : ((xs.length : Int) == 0) = false := by simpa using h0
          have hpos := Lib.hid (show 0 < xs.length by omega)
          clear h0
          go_wp2_with fail
          refine (sortS_row w1.heap.size wr A c xs hrow.out hpos.out (by have := hln.out; omega) C.out.size).mono ?_
          rintro e5 w5 ⟨rfl, ys, hp, hd, hr, hb5⟩
          have hy := Lib.hid (show ys = findS d by rw [hS.out]; exact stands_sorted (by rw [hst.out]; exact hp) hd)
          have hly := Lib.hid (show ys.length = xs.length from hp.length_eq)
          have B5 := Lib.hid (BW.out.trans (hb5.mono hlo.out))
          have hr5 := Lib.hid ((stab_sl stab_sp).mono hr hlo.out)
          clear hp hd hr hb5
          go_wp2_with fail
          go_ret2
          exact ⟨_, ret_two hE0.out.symm, by rw [← hy.out]; exact hr5.out, B5.out⟩
end Go.Proofs.Ytdcgcnnofjekaaa

/-
  The law package of layer 4: same (two lists of superblocks). Conditions: those that each lemma states.
-/
namespace Go.Proofs.Ytdcgcnnofjekaaa
open Go.RowKit

def sameL (xs ys : List Sp) : Bool := decide (xs = ys)
theorem sameL_self (xs : List Sp) : sameL xs xs = true := by simp [sameL]
/-- Five cells of a row that are a superblock. -/
def FiveAt (ad : Addr) (k : Nat) (x : Sp) (d : Value) (w : World) : Prop :=
  w.cell? (ad.add (k * 5)) = some (.int .u32 x.1) ∧ w.cell? ⟨(ad.add (k * 5)).block, (ad.add (k * 5)).off + 1, none⟩ = some (.int .i64 x.2.1) ∧ w.cell? ⟨(ad.add (k * 5)).block, (ad.add (k * 5)).off + 2, none⟩ = some (.int .u32 x.2.2.1) ∧ w.cell? ⟨(ad.add (k * 5)).block, (ad.add (k * 5)).off + 3, none⟩ = some (.int .u32 x.2.2.2.1) ∧ w.cell? ⟨(ad.add (k * 5)).block, (ad.add (k * 5)).off + 4, none⟩ = some d
theorem add_at (ad : Addr) (n j : Nat) : ad.add (n + (j + 1)) = ⟨(ad.add n).block, (ad.add n).off + (j + 1), none⟩ := by
  unfold Addr.add
  rw [if_neg (by omega)]
  by_cases h : n = 0
  · subst h
    simp
  · rw [if_neg h]
    simp [Nat.add_assoc]
theorem five_at {w : World} {A : Option Addr} {xs : List Sp} (h : ∀ i x, xs[i]? = some x → ∃ ad vs, A = some ad ∧ vs.length = 5 ∧ (∀ j v, vs[j]? = some v → Old w (ad.add (i * 5 + j)) ∧ w.cell? (ad.add (i * 5 + j)) = some v) ∧ rSp (Old w) w vs x) {k : Nat} {x : Sp} (hx : xs[k]? = some x) :
    ∃ ad d, A = some ad ∧ ∀ W, Below w.heap.size w W → FiveAt ad k x d W ∧ Sup (Old W) W (.agg #[.int .u32 x.1, .int .i64 x.2.1, .int .u32 x.2.2.1, .int .u32 x.2.2.2.1, d]) x := by
  obtain ⟨ad, vs, rfl, e5, q, r⟩ := h k x hx
  obtain ⟨d, rfl, hin, hd⟩ := rSp_open r
  have hs : Sup (Old w) w (.agg #[.int .u32 x.1, .int .i64 x.2.1, .int .u32 x.2.2.1, .int .u32 x.2.2.2.1, d]) x := ⟨d, rfl, hin, hd⟩
  refine ⟨ad, d, rfl, fun W hb => ⟨?_, hs.below hb⟩⟩
  have q0 := q 0 _ rfl
  have q1 := q 1 _ rfl
  have q2 := q 2 _ rfl
  have q3 := q 3 _ rfl
  have q4 := q 4 _ rfl
  have t1 := (hb.cell q1.1).trans q1.2
  have t2 := (hb.cell q2.1).trans q2.2
  have t3 := (hb.cell q3.1).trans q3.2
  have t4 := (hb.cell q4.1).trans q4.2
  rw [add_at] at t1 t2 t3 t4
  exact ⟨(hb.cell q0.1).trans q0.2, t1, t2, t3, t4⟩
set_option maxRecDepth 100000 in
set_option maxHeartbeats 4000000 in
theorem lawSame_any (v u : Value) (xs ys : List Sp) (w : World) (hv : rSl 5 rSp (Old w) w [v] xs) (hu : rSl 5 rSp (Old w) w [u] ys) :
    Calls Try.prog 29 #[v, u] w fun e w' => e = .returned (.bool (sameL xs ys)) ∧ Below w.heap.size w w' := by
  obtain ⟨A, c, e1, l1, m1, hA⟩ := hv
  obtain ⟨B, c', e2, l2, m2, hB⟩ := hu
  cases e1
  cases e2
  have HA := Lib.hid (fun k x (hx : xs[k]? = some x) => five_at hA hx)
  have HB := Lib.hid (fun k x (hx : ys[k]? = some x) => five_at hB hx)
  clear hA hB
  obtain ⟨n, hn⟩ : ∃ n, xs.length = n := ⟨_, rfl⟩
  obtain ⟨m, hm⟩ : ∃ m, ys.length = m := ⟨_, rfl⟩
  rw [hn] at l1 ⊢
  rw [hm] at l2 ⊢
  replace hn := Lib.hid hn
  replace hm := Lib.hid hm
  go_enter Try.func29, Try.ntmps29
  go_wp2_with fail
  go_loopw [5] (fun i wr => ∃ k : Nat, k ≤ n ∧ k ≤ m ∧ i = .int .i64 k ∧ xs.take k = ys.take k ∧ Below w.heap.size w wr) (fun i _ => n - (intOf i).toNat)
  case atStart => exact ⟨0, by omega, by omega, rfl, rfl, Below.refl _ _⟩
  case round =>
    obtain ⟨k, hk, hk2, rfl, ha, hb⟩ := hrel
    replace ha := Lib.hid ha
    replace hb := Lib.hid hb
    by_cases hlt : k < n
    case neg =>
      have hfin := Lib.hid (show sameL xs ys = decide ((n : Int) = (m : Int)) by
        unfold sameL
        have hx := ha.out
        rw [List.take_of_length_le (by rw [hn.out]; omega)] at hx
        have := hn.out
        have := hm.out
        refine decide_eq_decide.2 ⟨fun e => ?_, fun e => ?_⟩
        · rw [e] at hn
          have := hn.out
          omega
        · rw [hx, List.take_of_length_le (by omega)])
      go_wp2_with fail
      go_ret
      exact ⟨ret_bool hfin.out.symm, hb.out⟩
    by_cases hlt2 : k < m
    case neg =>
      have hfin := Lib.hid (show sameL xs ys = decide ((n : Int) = (m : Int)) by
        unfold sameL
        have hx := ha.out
        rw [List.take_of_length_le (l := ys) (by rw [hm.out]; omega)] at hx
        have := hn.out
        have := hm.out
        refine decide_eq_decide.2 ⟨fun e => ?_, fun e => ?_⟩
        · rw [e] at hn
          have := hn.out
          omega
        · rw [← hx, List.take_of_length_le (by omega)])
      go_wp2_with fail
      go_ret
      exact ⟨ret_bool hfin.out.symm, hb.out⟩
    obtain ⟨x, hx⟩ : ∃ x, xs[k]? = some x := ⟨_, List.getElem?_eq_getElem (by rw [hn.out]; exact hlt)⟩
    obtain ⟨y, hy⟩ : ∃ y, ys[k]? = some y := ⟨_, List.getElem?_eq_getElem (by rw [hm.out]; exact hlt2)⟩
    obtain ⟨ad, d1, rfl, FA⟩ := HA.out k x hx
    obtain ⟨bd, d2, rfl, FB⟩ := HB.out k y hy
    replace hx := Lib.hid hx
    replace hy := Lib.hid hy
    replace FA : Hid (∀ W, Below wr.heap.size wr W → FiveAt ad k x d1 W ∧ Sup (Old W) W (.agg #[.int .u32 x.1, .int .i64 x.2.1, .int .u32 x.2.2.1, .int .u32 x.2.2.2.1, d1]) x) := Lib.hid fun W h => FA W (hb.out.trans (h.mono hb.out.size))
    replace FB : Hid (∀ W, Below wr.heap.size wr W → FiveAt bd k y d2 W ∧ Sup (Old W) W (.agg #[.int .u32 y.1, .int .i64 y.2.1, .int .u32 y.2.2.1, .int .u32 y.2.2.2.1, d2]) y) := Lib.hid fun W h => FB W (hb.out.trans (h.mono hb.out.size))
    have i1 : (0 : Int) ≤ (k : Int) := by omega
    have i2 : (k : Int) < (n : Int) := by omega
    have i3 : (k : Int) < (m : Int) := by omega
    obtain ⟨s, hs⟩ : ∃ s, sameSp x y = s := ⟨_, rfl⟩
    have hs' := Lib.hid hs
    clear hs
    go_wp2_with fail
    refine wp_region_fx (by kernel_rfl) (fun W => Below wr.heap.size wr W) (fun _ => none) (fun i => match i with
      | 8 => some (.bool s)
      | _ => none) (by kernel_rfl) (Below.refl _ _).drew (fun w w' h hb => h.trans (hb.mono h.size)) (fun j φ x W W' hp => by cases hp) ?_
    repeat (first
      | (refine wpAs_skip rfl ?_; simp only [Act.put, List.setIfInBounds_toArray, List.set_cons_zero, List.set_cons_succ])
      | (refine wpAs_pure (v := ?_) rfl rfl ?_ ?_; rotate_left; (intro W hC hE; clear hE; (obtain ⟨⟨z0, z1, z2, z3, z4⟩, _⟩ := FA.out W hC; obtain ⟨⟨y0, y1, y2, y3, y4⟩, _⟩ := FB.out W hC); clear hC; go_simp; done); simp only [Act.put, List.setIfInBounds_toArray, List.set_cons_zero, List.set_cons_succ])
      | (refine wpAs_pure (v := ?_) rfl rfl ?_ ?_; rotate_left; (intro W hC hE; clear hE; (obtain ⟨⟨z0, z1, z2, z3, z4⟩, _⟩ := FA.out W hC; obtain ⟨⟨y0, y1, y2, y3, y4⟩, _⟩ := FB.out W hC); clear hC; go_simp; with_reducible rfl); simp only [Act.put, List.setIfInBounds_toArray, List.set_cons_zero, List.set_cons_succ]))
    refine wpAs_fixed rfl rfl rfl ?_ ?_
    · intro W hC hE
      refine does_enter (f := 22) (args := #[.agg #[.int .u32 x.1, .int .i64 x.2.1, .int .u32 x.2.2.1, .int .u32 x.2.2.2.1, d1], .agg #[.int .u32 y.1, .int .i64 y.2.1, .int .u32 y.2.2.1, .int .u32 y.2.2.2.1, d2]]) ?_ ?_
      · go_simp
      · refine (sameS_any _ _ x y W (FA.out W hC).2 (FB.out W hC).2).mono ?_
        rintro e W' ⟨rfl, hg⟩
        rw [hs'.out]
        exact ⟨_, rfl, rfl, hg⟩
    simp only [Act.put, List.setIfInBounds_toArray, List.set_cons_zero, List.set_cons_succ]
    repeat (first
      | (refine wpAs_skip rfl ?_; simp only [Act.put, List.setIfInBounds_toArray, List.set_cons_zero, List.set_cons_succ])
      | (refine wpAs_pure (v := ?_) rfl rfl ?_ ?_; rotate_left; (intro W hC hE; clear hE; (skip); clear hC; go_simp; done); simp only [Act.put, List.setIfInBounds_toArray, List.set_cons_zero, List.set_cons_succ])
      | (refine wpAs_pure (v := ?_) rfl rfl ?_ ?_; rotate_left; (intro W hC hE; clear hE; (skip); clear hC; go_simp; with_reducible rfl); simp only [Act.put, List.setIfInBounds_toArray, List.set_cons_zero, List.set_cons_succ]))
    refine wpAs_end fun W hC hE => ?_
    have BW := Lib.hid (hb.out.trans (hC.mono hb.out.size))
    clear hE hC
    cases s with
    | true =>
      have he := Lib.hid (sameSp_eq hs'.out)
      go_wp2_with fail
      go_roundw
      case rel => exact ⟨k + 1, by omega, by omega, by go_num, take_eq_succ ha.out hx.out hy.out he.out, BW.out⟩
      case measure => simp [intOf]; omega
    | false =>
      have hne := Lib.hid (show sameL xs ys = false by
        unfold sameL
        simp only [decide_eq_false_iff_not]
        exact ne_of_at hx.out hy.out (fun e => by have := hs'.out; rw [e, sameSp_self] at this; cases this))
      go_wp2_with fail
      go_ret
      exact ⟨ret_bool hne.out.symm, BW.out⟩
end Go.Proofs.Ytdcgcnnofjekaaa

/-
  Superblocks and their blocks are told by one another (plain). Conditions: those that each lemma states.
-/
namespace Go.Proofs.Ytdcgcnnofjekaaa
open Go.RowKit

theorem cut_mid {a b c : List UInt8} {i m : Nat} (ha : a.length = i) (hb : b.length = m) : ((a ++ b ++ c).drop i).take m = b := by
  subst ha
  subst hb
  rw [List.append_assoc, List.drop_left, List.take_left]
theorem gv_mid {a b c : List UInt8} {i m : Nat} (ha : a.length = i) (hb : b.length = m) : gv m (a ++ b ++ c) (i : Int) = num b := by
  rw [gv_yes ⟨by omega, by simp only [List.length_append]; omega⟩, Int.toNat_natCast, cut_mid ha hb]
theorem num2 {n : Int} (h0 : 0 ≤ n) (h1 : n < 65536) : num (le 2 n) = n := num_le 2 n h0 (by simpa using h1)
theorem num4 {n : Int} (h0 : 0 ≤ n) (h1 : n < 4294967296) : num (le 4 n) = n := num_le 4 n h0 (by simpa using h1)
theorem twos_at : ∀ (xs : List Int) (i : Nat) (x : Int), xs[i]? = some x → ∃ p q, twos xs = p ++ le 2 x ++ q ∧ p.length = 2 * i
  | [], i, x, h => by simp at h
  | y :: r, 0, x, h => by
    simp at h
    subst h
    exact ⟨[], twos r, rfl, rfl⟩
  | y :: r, i + 1, x, h => by
    obtain ⟨p, q, e, hl⟩ := twos_at r i x (by simpa using h)
    refine ⟨le 2 y ++ p, q, ?_, by rw [List.length_append, le_length]; omega⟩
    show le 2 y ++ twos r = _
    rw [e]
    simp [List.append_assoc]
set_option maxHeartbeats 1000000 in
theorem pad_fields {s : Sp} (hin : InSp s) (hm : mayS s = true) : cntN (padN (bodyS s)) = s.2.2.2.2.length ∧ fieldsS (padN (bodyS s)) = s := by
  obtain ⟨hr, h40, hall⟩ := mayS_of hm
  obtain ⟨r0, r1⟩ := takB_of hr
  obtain ⟨g, r, n, t, xs⟩ := s
  obtain ⟨⟨g0, g1⟩, _, ⟨n0, n1⟩, ⟨t0, t1⟩⟩ := hin
  dsimp only at r0 r1 g0 g1 n0 n1 t0 t1 h40 hall
  obtain ⟨z, hz⟩ : ∃ z, zeros (124 - (bodyS (g, r, n, t, xs)).length) = z := ⟨_, rfl⟩
  have hb : padN (bodyS (g, r, n, t, xs)) = le 4 g ++ le 2 r ++ le 4 n ++ le 4 t ++ [UInt8.ofNat xs.length] ++ twos xs ++ z := by
    unfold padN
    rw [hz]
    rfl
  rw [hb]
  have f1 : gv 4 (le 4 g ++ le 2 r ++ le 4 n ++ le 4 t ++ [UInt8.ofNat xs.length] ++ twos xs ++ z) 0 = g := by
    have := gv_mid (a := []) (b := le 4 g) (c := le 2 r ++ le 4 n ++ le 4 t ++ [UInt8.ofNat xs.length] ++ twos xs ++ z) (i := 0) (m := 4) rfl (le_length _ _)
    rw [num4 g0 g1] at this
    simpa [List.append_assoc] using this
  have f2 : gv 2 (le 4 g ++ le 2 r ++ le 4 n ++ le 4 t ++ [UInt8.ofNat xs.length] ++ twos xs ++ z) 4 = r := by
    have := gv_mid (a := le 4 g) (b := le 2 r) (c := le 4 n ++ le 4 t ++ [UInt8.ofNat xs.length] ++ twos xs ++ z) (i := 4) (m := 2) (le_length _ _) (le_length _ _)
    rw [num2 (by omega) (by omega)] at this
    simpa [List.append_assoc] using this
  have f3 : gv 4 (le 4 g ++ le 2 r ++ le 4 n ++ le 4 t ++ [UInt8.ofNat xs.length] ++ twos xs ++ z) 6 = n := by
    have := gv_mid (a := le 4 g ++ le 2 r) (b := le 4 n) (c := le 4 t ++ [UInt8.ofNat xs.length] ++ twos xs ++ z) (i := 6) (m := 4) (by simp [le_length]) (le_length _ _)
    rw [num4 n0 n1] at this
    simpa [List.append_assoc] using this
  have f4 : gv 4 (le 4 g ++ le 2 r ++ le 4 n ++ le 4 t ++ [UInt8.ofNat xs.length] ++ twos xs ++ z) 10 = t := by
    have := gv_mid (a := le 4 g ++ le 2 r ++ le 4 n) (b := le 4 t) (c := [UInt8.ofNat xs.length] ++ twos xs ++ z) (i := 10) (m := 4) (by simp [le_length]) (le_length _ _)
    rw [num4 t0 t1] at this
    simpa [List.append_assoc] using this
  have hc : cntN (le 4 g ++ le 2 r ++ le 4 n ++ le 4 t ++ [UInt8.ofNat xs.length] ++ twos xs ++ z) = xs.length := by
    unfold cntN
    rw [List.append_assoc _ (twos xs) z, List.getElem?_append_left (by simp [le_length]), List.getElem?_append_right (by simp [le_length])]
    simp [le_length]
    omega
  refine ⟨hc, ?_⟩
  have hd : deadV (le 4 g ++ le 2 r ++ le 4 n ++ le 4 t ++ [UInt8.ofNat xs.length] ++ twos xs ++ z) = xs := by
    have hPl : (le 4 g ++ le 2 r ++ le 4 n ++ le 4 t ++ [UInt8.ofNat xs.length]).length = 15 := by simp [le_length]
    generalize le 4 g ++ le 2 r ++ le 4 n ++ le 4 t ++ [UInt8.ofNat xs.length] = P at hc hPl ⊢
    clear f1 f2 f3 f4 hb hz
    unfold deadV
    rw [hc, if_pos (by omega)]
    apply List.ext_getElem?
    intro i
    by_cases hi : i < xs.length
    · have hx : xs[i]? = some xs[i] := List.getElem?_eq_getElem hi
      obtain ⟨p, q, e, hl⟩ := twos_at xs i _ hx
      obtain ⟨x0, x1⟩ := takB_of (all_at hall hx)
      have h1 := gv_mid (a := P ++ p) (b := le 2 xs[i]) (c := q ++ z) (i := 15 + 2 * i) (m := 2) (by rw [List.length_append, hPl, hl]) (le_length _ _)
      rw [num2 (by omega) (by omega)] at h1
      have e2 : P ++ twos xs ++ z = P ++ p ++ le 2 xs[i] ++ (q ++ z) := by rw [e]; simp only [List.append_assoc]
      have e3 : (((15 + 2 * i : Nat) : Int)) = 15 + 2 * (i : Int) := by omega
      rw [e3] at h1
      rw [hx, deadN, List.getElem?_map, List.getElem?_range hi, Option.map_some, e2, h1]
    · rw [List.getElem?_eq_none (by rw [deadN_length]; omega), List.getElem?_eq_none (by omega)]
  unfold fieldsS
  rw [f1, f2, f3, f4, hd]
/-- A superblock's block is read as it. -/
theorem blk_back {s : Sp} (hin : InSp s) (hm : mayS s = true) : reE (blkS s) = 0 ∧ reS (blkS s) = s := by
  have h128 := blkS_length hm
  have hf : fits (blkS s) := fits_seal _
  have ho : oe (blkS s) = 0 := by unfold oe; rw [if_pos h128, if_pos hf]
  have hob : ob (blkS s) = padN (bodyS s) := by
    obtain ⟨_, _, e, _⟩ := oe_zero ho
    rw [e]
    exact seal_drop _
  obtain ⟨hc, hfs⟩ := pad_fields hin hm
  have hok : okRe (blkS s) = true := by
    unfold okRe
    rw [hob, hc, hfs, hm]
    have := (mayS_of hm).2.1
    simp [this]
  exact ⟨by unfold reE; rw [if_pos ho, hok]; rfl, by unfold reS; rw [if_pos ho, hok, if_pos rfl, hob, hfs]⟩
/-- What is read is written as just this block. -/
theorem read_blk {b : List UInt8} (h : reE b = 0) : mayS (reS b) = true ∧ blkS (reS b) = b ∧ InSp (reS b) := by
  unfold reE at h
  by_cases ho : oe b = 0
  · rw [if_pos ho] at h
    cases hok : okRe b with
    | false => rw [hok] at h; cases h
    | true =>
      have hr : reS b = fieldsS (ob b) := by unfold reS; rw [if_pos ho, hok, if_pos rfl]
      unfold okRe at hok
      simp only [Bool.and_eq_true, decide_eq_true_eq] at hok
      rw [hr]
      exact ⟨hok.1.2, hok.2, inSp_fields _⟩
  · rw [if_neg ho] at h
    exact absurd h ho
theorem read_no {b : List UInt8} (h : reE b ≠ 0) : reS b = zeroSp := by
  unfold reE at h
  unfold reS
  by_cases ho : oe b = 0
  · rw [if_pos ho] at h ⊢
    cases hok : okRe b with
    | true => rw [hok] at h; exact absurd rfl h
    | false => rfl
  · rw [if_neg ho]
end Go.Proofs.Ytdcgcnnofjekaaa

/-
  Package ring: Put. Conditions: those that each lemma states.
-/
namespace Go.Proofs.Ytdcgcnnofjekaaa
open Go.RowKit

def putE (d : Dk) (s : Sp) : Int := if mayB d then (if mayS s then wErr d (s.1 % 4) (blkS s) else 8) else 8
def putR (d : Dk) (s : Sp) : Dk := if mayB d then (if mayS s then wrR d (s.1 % 4) (blkS s) else emptyD) else emptyD

set_option maxRecDepth 100000 in
set_option maxHeartbeats 8000000 in
theorem put_any (v u : Value) (d : Dk) (s : Sp) (w : World) (h : Dsk (Old w) w v d) (hu : Sup (Old w) w u s) :
    Calls Try.prog 13 #[v, u] w fun e w' => ∃ x, e = .returned (.tuple #[x, .int .i64 (putE d s)]) ∧ Dsk (New w.heap.size w') w' x (putR d s) ∧ Below w.heap.size w w' := by
  obtain ⟨A, c, B, f, rfl, _⟩ := id h.open
  obtain ⟨D, dc, rfl, hin, _⟩ := id hu.open
  obtain ⟨w1, hw1, b1, hs1, hB1⟩ := box_pair' w (.slice A d.1.length c) (.slice B d.2.length f) 30
  obtain ⟨w2, hw2, z0, z1, z2, z3, z4, hs2, hB2, _⟩ := box_five w1 (.int .u32 s.1) (.int .i64 s.2.1) (.int .u32 s.2.2.1) (.int .u32 s.2.2.2.1) (.slice D s.2.2.2.2.length dc) 37
  obtain ⟨w3, hw3, b3, hs3, hB3⟩ := box_pair' w2 (.slice none 0 0) (.slice none 0 0) 30
  obtain ⟨f1, f2, _, lt1⟩ := two_cells b1
  have G1 := (((Bag.nil w).add (F := OldD (.agg #[.slice A d.1.length c, .slice B d.2.length f]) d) h (lasts_oldD _ _)).add (F := OldS (supV s D dc) s) hu (lasts_oldS _ _)).below hB1
  have G2 := (G1.add (F := Box2 w.heap.size (.slice A d.1.length c) (.slice B d.2.length f)) ⟨f1, f2, lt1⟩ (lasts_box _ _ _)).below hB2
  have HG := Lib.hid ((G2.add (F := Box5 w1.heap.size (.int .u32 s.1) (.int .i64 s.2.1) (.int .u32 s.2.2.1) (.int .u32 s.2.2.2.1) (.slice D s.2.2.2.2.length dc)) ⟨z0, z1, z2, z3, z4, by omega⟩ (lasts_box5 _ _ _ _ _ _)).below hB3)
  have B3 := Lib.hid ((hB1.trans (hB2.mono hB1.size)).trans (hB3.mono (hB1.trans (hB2.mono hB1.size)).size))
  obtain ⟨⟨g0, g1⟩, _, _, _⟩ := hin
  have LT := Lib.hid (show w.heap.size < w1.heap.size ∧ w1.heap.size < w2.heap.size ∧ w2.heap.size < w3.heap.size from ⟨by omega, by omega, by omega⟩)
  replace hw3 := Lib.hid hw3
  replace b3 := Lib.hid b3
  have hPE : Hid (putE d s = if mayB d then (if mayS s then wErr d (s.1 % 4) (blkS s) else 8) else 8) := Lib.hid rfl
  have hPR : Hid (putR d s = if mayB d then (if mayS s then wrR d (s.1 % 4) (blkS s) else emptyD) else emptyD) := Lib.hid rfl
  clear f1 f2 b1 z0 z1 z2 z3 z4 hs1 hs2 hs3 hB1 hB2 hB3 G1 G2 h hu lt1
  go_enter Try.func13, Try.ntmps13
  go_upto_region 1 with fail
  rw [hw3.out]
  clear hw1 hw2 hw3
  obtain ⟨k1, k2, _⟩ := HG.out.at 1 rfl
  have xd : Dsk (Old w3) w3 _ _ := HG.out.at 3 rfl
  go_wp2_with fail
  with_reducible refine (check_any _ d _ xd).mono ?_
  rintro e4 w4 ⟨rfl, hb4⟩
  have B4 := Lib.hid (B3.out.trans (hb4.mono B3.out.size))
  have C4 := Lib.hid hb4
  replace HG := Lib.hid (HG.out.below hb4)
  clear hb4 xd k1 k2
  have b4 := (C4.out.block w2.heap.size LT.out.2.2).trans b3.out
  obtain ⟨y1, y2, y3, _⟩ := two_cells b4
  have bad : ∀ (W : World), Below w3.heap.size w3 W → putR d s = emptyD → ∃ W9 : World, (W.setCell ⟨w2.heap.size, 0, none⟩ (.slice none 0 0)).setCell ⟨w2.heap.size, 1, none⟩ (.slice none 0 0) = W9 ∧ W.cell? ⟨w2.heap.size, 0, none⟩ = some (.slice none 0 0) ∧ W.cell? ⟨w2.heap.size, 1, none⟩ = some (.slice none 0 0) ∧ (∀ o, W.frozen? ⟨w2.heap.size, o, none⟩ = false) ∧
      W9.cell? ⟨w2.heap.size, 0, none⟩ = some (.slice none 0 0) ∧ W9.cell? ⟨w2.heap.size, 1, none⟩ = some (.slice none 0 0) ∧ Hid (Dsk (New w.heap.size W9) W9 (.agg #[.slice none 0 0, .slice none 0 0]) (putR d s) ∧ Below w.heap.size w W9) := fun W hb hno => by
    have bW := (hb.block w2.heap.size LT.out.2.2).trans b3.out
    obtain ⟨c1, c2, c3, _⟩ := two_cells bW
    obtain ⟨W9, hW9, g9, gr9, gs9⟩ := put_two (u := .slice none 0 0) (v := .slice none 0 0) bW
    obtain ⟨c4, c5, _, _⟩ := two_cells g9
    have BW := B3.out.trans (hb.mono B3.out.size)
    exact ⟨W9, hW9, c1, c2, c3, c4, c5, Lib.hid ⟨by rw [hno]; exact dsk_empty_new _ _, BW.grown gr9 BW.size (fun q e => by cases e; have := LT.out; omega)⟩⟩
  replace bad := Lib.hid bad
  clear y1 y2 y3
  replace b4 := Lib.hid b4
  cases hm : mayB d with
  | false =>
    have hc := Lib.hid (chk_bad hm)
    have hE := Lib.hid (show putE d s = 8 by rw [hPE.out, hm]; rfl)
    obtain ⟨W9, hW9, c1, c2, c3, k5, k6, hz⟩ := bad.out w4 C4.out (by rw [hPR.out, hm]; rfl)
    rw [hc.out]
    replace hm := Lib.hid hm
    go_wp2_with fail
    exact bodyPost_ret (v := .tuple #[.agg #[.slice none 0 0, .slice none 0 0], .int .i64 8]) (by simp [results, Try.results13, go_sem, k5, k6]) rfl ⟨_, ret_two hE.out.symm, hz.out.1, hz.out.2⟩
  | true =>
    have hc := Lib.hid (chk_ok hm)
    rw [hc.out]
    obtain ⟨s0, s1, s2, s3, s4, _⟩ := HG.out.at 0 rfl
    have xs : Sup (Old w4) w4 _ _ := HG.out.at 2 rfl
    have hm' := Lib.hid hm
    clear hm
    go_wp2_with fail
    with_reducible refine (ringWrite_any _ s _ xs).mono ?_
    rintro e5 w5 ⟨u5, rfl, hu5, hb5⟩
    have B5 := Lib.hid (B4.out.trans (hb5.mono B4.out.size))
    have C5 := Lib.hid (C4.out.trans (hb5.mono C4.out.size))
    replace HG := Lib.hid (HG.out.below hb5)
    have hub := Lib.hid (stab_by.drop hu5)
    clear hb5 xs s0 s1 s2 s3 s4 hu5
    cases hms : mayS s with
    | false =>
      have hck := Lib.hid (chkS_bad hms)
      have hE := Lib.hid (show putE d s = 8 by rw [hPE.out, hm'.out, hms]; rfl)
      obtain ⟨W9, hW9, c1, c2, c3, k5, k6, hz⟩ := bad.out w5 C5.out (by rw [hPR.out, hm'.out, hms]; rfl)
      rw [hck.out]
      replace hms := Lib.hid hms
      go_wp2_with fail
      exact bodyPost_ret (v := .tuple #[.agg #[.slice none 0 0, .slice none 0 0], .int .i64 8]) (by simp [results, Try.results13, go_sem, k5, k6]) rfl ⟨_, ret_two hE.out.symm, hz.out.1, hz.out.2⟩
    | true =>
      have hck := Lib.hid (chkS_ok hms)
      have hE' := Lib.hid (show putE d s = wErr d (s.1 % 4) (blkS s) by rw [hPE.out, hm'.out, hms]; rfl)
      have hR := Lib.hid (show putR d s = wrR d (s.1 % 4) (blkS s) by rw [hPR.out, hm'.out, hms]; rfl)
      have hwr := Lib.hid (show wrS s = blkS s by simp [wrS, hms])
      rw [hwr.out] at hub
      rw [hck.out]
      replace hms := Lib.hid hms
      obtain ⟨E, ce, rfl, _⟩ := id (rBy_open hub.out)
      obtain ⟨t, ht⟩ : ∃ t, s.1 % 4 = t := ⟨_, rfl⟩
      rw [ht] at hE' hR
      obtain ⟨R, hRe⟩ : ∃ R, wrR d t (blkS s) = R := ⟨_, rfl⟩
      obtain ⟨q, hq⟩ : ∃ q, wErr d t (blkS s) = q := ⟨_, rfl⟩
      rw [hRe] at hR
      rw [hq] at hE'
      replace ht := Lib.hid ht
      replace hRe := Lib.hid hRe
      replace hq := Lib.hid hq
      have HQ : Hid (∀ W, Below w5.heap.size w5 W → Bag W _) := Lib.hid fun W hb => HG.out.below hb
      go_wp2_with fail
      refine wp_region_tails (by kernel_rfl) 8 (fun W => Below w5.heap.size w5 W) (fun i => match i with
          | 5 => some (fun v W => ∃ x, v = .tuple #[x, .int .i64 q] ∧ Dsk (New w5.heap.size W) W x R)
          | 6 => some (fun v W => Dsk (New w5.heap.size W) W v R)
          | _ => none) (fun i => match i with
          | 3 => some (.int .i64 t)
          | 7 => some (.int .i64 q)
          | _ => none) (by decide) (by kernel_rfl) (by kernel_rfl) (Below.refl _ _).drew (fun w w' h hb => h.trans (hb.mono h.size)) ?tst ?_
      case tst =>
        intro j φ x W W' hp hx hb
        match j, hp with
        | 5, hp =>
          cases hp
          obtain ⟨y, e, hy⟩ := hx
          exact ⟨y, e, hy.new (Nat.le_refl _) hb⟩
        | 6, hp => cases hp; exact hx.new (Nat.le_refl _) hb
      simp only [List.take_succ_cons, List.take_zero, List.drop_succ_cons, List.drop_zero]
      repeat (first
        | (refine wpAs_skip rfl ?_; simp only [Act.put, List.setIfInBounds_toArray, List.set_cons_zero, List.set_cons_succ])
        | (refine wpAs_pure (v := ?_) rfl rfl ?_ ?_; rotate_left; (intro W hC hE; clear hE; (obtain ⟨s0, s1, s2, s3, s4, _⟩ := (HQ.out W hC).at 0 rfl; obtain ⟨k1, k2, _⟩ := (HQ.out W hC).at 1 rfl); clear hC; go_simp; done); simp only [Act.put, List.setIfInBounds_toArray, List.set_cons_zero, List.set_cons_succ])
        | (refine wpAs_pure (v := ?_) rfl rfl ?_ ?_; rotate_left; (intro W hC hE; clear hE; (obtain ⟨s0, s1, s2, s3, s4, _⟩ := (HQ.out W hC).at 0 rfl; obtain ⟨k1, k2, _⟩ := (HQ.out W hC).at 1 rfl); clear hC; go_simp; with_reducible rfl); simp only [Act.put, List.setIfInBounds_toArray, List.set_cons_zero, List.set_cons_succ]))
      refine wpAs_fixed rfl rfl rfl ?_ ?_
      · intro W hC hE
        refine does_enter (f := 15) (args := #[.int .u32 s.1]) ?_ ?_
        · go_simp
        · refine (slot_any s.1 g0 g1 W).mono ?_
          rintro e W' ⟨rfl, rfl⟩
          rw [ht.out]
          exact ⟨_, rfl, rfl, Below.refl _ _⟩
      simp only [Act.put, List.setIfInBounds_toArray, List.set_cons_zero, List.set_cons_succ]
      repeat (first
        | (refine wpAs_skip rfl ?_; simp only [Act.put, List.setIfInBounds_toArray, List.set_cons_zero, List.set_cons_succ])
        | (refine wpAs_pure (v := ?_) rfl rfl ?_ ?_; rotate_left; (intro W hC hE; clear hE; (skip); clear hC; go_simp; done); simp only [Act.put, List.setIfInBounds_toArray, List.set_cons_zero, List.set_cons_succ])
        | (refine wpAs_pure (v := ?_) rfl rfl ?_ ?_; rotate_left; (intro W hC hE; clear hE; (skip); clear hC; go_simp; with_reducible rfl); simp only [Act.put, List.setIfInBounds_toArray, List.set_cons_zero, List.set_cons_succ]))
      refine wpAs_act rfl rfl ?_ ?_
      · intro W hC hE
        clear hE
        refine does_enter (f := 30) (args := #[.agg #[.slice A d.1.length c, .slice B d.2.length f], .int .i64 t, .slice E (blkS s).length ce]) ?_ ?_
        · go_simp
        · refine (write_all _ _ d t (blkS s) W ((HQ.out W hC).at 3 rfl : Dsk (Old W) W _ _) (stab_by.old hub.out hC)).mono ?_
          rintro e W' ⟨x, rfl, hx, hb⟩
          rw [hRe.out] at hx
          rw [hq.out]
          exact ⟨_, rfl, ⟨x, rfl, hx.map fun p v hp hc => ⟨⟨Nat.le_trans hC.size hp.1, hp.2⟩, hc⟩⟩, hb⟩
      simp only [Act.put, List.setIfInBounds_toArray, List.set_cons_zero, List.set_cons_succ, envAdd]
      intro x29
      refine wpAs_act rfl rfl ?_ ?_
      · intro W hC hE
        obtain ⟨x, rfl, hx⟩ := hE.1 rfl
        clear hE hC
        replace hx := Lib.hid hx
        go_simp
        exact ⟨hx.out, Below.refl _ _⟩
      simp only [Act.put, List.setIfInBounds_toArray, List.set_cons_zero, List.set_cons_succ, envAdd]
      intro x30
      refine wpAs_fixed rfl rfl rfl ?_ ?_
      · intro W hC hE
        obtain ⟨x, rfl, hx⟩ := hE.2.1 rfl
        clear hE hC hx
        go_simp
        exact ⟨rfl, Below.refl _ _⟩
      simp only [Act.put, List.setIfInBounds_toArray, List.set_cons_zero, List.set_cons_succ]
      refine wpAs_end fun W hC hE => ?_
      have hx := hE.1
      obtain ⟨X, xc, Y, yc, rfl, _⟩ := id hx.open
      have CW := C5.out.trans (hC.mono C5.out.size)
      have bW := (CW.block w2.heap.size LT.out.2.2).trans b3.out
      obtain ⟨c1, c2, c3, _⟩ := two_cells bW
      obtain ⟨W9, hW9, g9, gr9, gs9⟩ := put_two (u := .slice X R.1.length xc) (v := .slice Y R.2.length yc) bW
      obtain ⟨k5, k6, _, _⟩ := two_cells g9
      have BW := B5.out.trans (hC.mono B5.out.size)
      have hfin : Hid (Dsk (New w.heap.size W9) W9 (.agg #[.slice X R.1.length xc, .slice Y R.2.length yc]) (putR d s) ∧ Below w.heap.size w W9) := Lib.hid ⟨by
        rw [hR.out]
        exact (hx.grown gr9 (fun q e => by cases e; have := LT.out; have := C5.out.size; omega)).map fun p v hp hc => ⟨⟨Nat.le_trans B5.out.size hp.1, hp.2⟩, hc⟩, BW.grown gr9 BW.size (fun q e => by cases e; have := LT.out; omega)⟩
      replace g9 := Lib.hid g9
      replace bW := Lib.hid bW
      clear hE hx gr9 BW CW hC
      go_wp2_with fail
      exact bodyPost_ret (v := .tuple #[.agg #[.slice X R.1.length xc, .slice Y R.2.length yc], .int .i64 q]) (by simp [results, Try.results13, go_sem, k5, k6]) rfl ⟨_, ret_two hE'.out.symm, hfin.out.1, hfin.out.2⟩
end Go.Proofs.Ytdcgcnnofjekaaa

/-
  What stands where a superblock was put (plain); the law's own alive (layer 4). Conditions: those that each lemma states.
-/
namespace Go.Proofs.Ytdcgcnnofjekaaa
open Go.RowKit

/-- A superblock that may be put. -/
structure Puts (d : Dk) (s : Sp) : Prop where
  may : mayB d = true
  sup : mayS s = true
  room : d.2.length < 4096
theorem slot_nat {s : Sp} (h : InSp s) : ∃ k : Nat, s.1 % 4 = (k : Int) ∧ k < 4 := ⟨(s.1 % 4).toNat, by have := h.gen; unfold InU at this; omega, by have := h.gen; unfold InU at this; omega⟩
theorem put_ok {d : Dk} {s : Sp} {k : Nat} (hk : s.1 % 4 = (k : Int)) (hk4 : k < 4) (h : Puts d s) : putE d s = 0 ∧ putR d s = wrD d k (blkS s) ∧ mayB (putR d s) = true := by
  have hl := blkS_length h.sup
  have he : wErr d (k : Int) (blkS s) = 0 := by
    have ht : thereB (k : Int) = true := by simp [thereB]; omega
    have := h.room
    simp [wErr, h.may, ht, hl]
    omega
  have e1 : putE d s = 0 := by unfold putE; rw [h.may, h.sup, hk]; exact he
  have e2 : putR d s = wrD d k (blkS s) := by unfold putR; rw [h.may, h.sup, hk]; exact wrR_nat he
  exact ⟨e1, e2, by rw [e2, ← wrR_nat he]; exact (may_wrR he).1⟩
theorem put_zero {d : Dk} {s : Sp} (hin : InSp s) (h : putE d s = 0) : Puts d s := by
  unfold putE at h
  cases hm : mayB d with
  | false => rw [hm] at h; cases h
  | true =>
    cases hs : mayS s with
    | false => rw [hm, hs] at h; cases h
    | true =>
      rw [hm, hs] at h
      obtain ⟨_, _, _, h4⟩ := write_fine (show wErr d (s.1 % 4) (blkS s) = 0 from h) (.inr trivial)
      exact ⟨hm, hs, h4⟩
/-- What stands behind. -/
theorem stand_put {d : Dk} {s : Sp} {k : Nat} (hin : InSp s) (hk : s.1 % 4 = (k : Int)) (hk4 : k < 4) (h : Puts d s) (i : Nat) : standS (putR d s) i = if i = k then some s else standS d i := by
  rw [(put_ok hk hk4 h).2.1]
  by_cases hi : i = k
  · subst hi
    obtain ⟨h1, h2⟩ := blk_back hin h.sup
    rw [if_pos rfl]
    have := standS_yes (d := wrD d i (blkS s)) (i := i) (by rw [seenD_write]; exact h1) (by rw [seenD_write, h2]; exact hk)
    rw [seenD_write, h2] at this
    exact this
  · rw [if_neg hi]
    unfold standS
    rw [seenD_write_ne hi]
theorem nought_bad : reE (List.replicate 128 0) = 8 := by
  have h1 : ¬ fits (List.replicate 128 0) := by
    unfold fits
    have : crc (List.replicate 124 0) ≠ 0 := by decide +kernel
    have e1 : (List.replicate 128 (0 : UInt8)).drop 4 = List.replicate 124 0 := by decide +kernel
    have e2 : num ((List.replicate 128 (0 : UInt8)).take 4) = 0 := by decide +kernel
    rw [e1, e2]
    omega
  have h2 : (List.replicate 128 (0 : UInt8)).length = 128 := List.length_replicate
  unfold reE oe
  rw [if_pos h2, if_neg h1]
  rfl
theorem stand_zero {i : Nat} (hi : i < 256) : standS zeroD i = none := by
  have e : seenD zeroD i = List.replicate 128 0 := by
    unfold seenD
    rw [zero_at hi]
    rfl
  exact standS_bad (by rw [e, nought_bad]; decide)
theorem stands_eq (d : Dk) : stands d = (standS d 0).toList ++ (standS d 1).toList ++ (standS d 2).toList ++ (standS d 3).toList := by
  unfold stands
  show List.filterMap _ [0, 1, 2, 3] = _
  cases h0 : standS d 0 <;> cases h1 : standS d 1 <;> cases h2 : standS d 2 <;> cases h3 : standS d 3 <;> simp [List.filterMap_cons, h0, h1, h2, h3]
def s5 : Sp := (5, 8, 0, 0, [])
theorem in5 : InSp s5 := ⟨⟨by decide, by decide⟩, ⟨by decide, by decide⟩, ⟨by decide, by decide⟩, ⟨by decide, by decide⟩⟩
theorem puts5 : Puts zeroD s5 := ⟨may_zero, by decide, by decide⟩
theorem find5 : putE zeroD s5 = 0 ∧ findE (putR zeroD s5) = 0 ∧ findS (putR zeroD s5) = [s5] := by
  obtain ⟨h1, _, h3⟩ := put_ok (k := 1) (by decide) (by decide) puts5
  have hst : stands (putR zeroD s5) = [s5] := by
    rw [stands_eq]
    simp only [stand_put in5 (k := 1) (by decide) (by decide) puts5, stand_zero (show 0 < 256 by decide), stand_zero (show 2 < 256 by decide), stand_zero (show 3 < 256 by decide)]
    rfl
  exact ⟨h1, by unfold findE; rw [h3, hst]; rfl, by unfold findS; rw [h3, hst]; rfl⟩

set_option maxRecDepth 100000 in
set_option maxHeartbeats 4000000 in
theorem alive4 (w : World) : Calls Try.prog 10 #[] w fun e w' => e = .returned (.bool true) ∧ Below w.heap.size w w' := by
  obtain ⟨q1, q2, q3⟩ := find5
  have Q1 := Lib.hid q1
  have Q2 := Lib.hid q2
  have Q3 := Lib.hid q3
  clear q1 q2 q3
  go_enter Try.func10, Try.ntmps10
  go_wp2_with fail
  with_reducible refine (new_any _).mono ?_
  rintro e1 w1 ⟨u1, rfl, h1, b1⟩
  have B1 := Lib.hid b1
  obtain ⟨A, c, B, f, rfl, _⟩ := id h1.open
  have h1o := Lib.hid h1.drop
  clear h1 b1
  go_wp2_with fail
  refine (put_any _ (.agg #[.int .u32 5, .int .i64 8, .int .u32 0, .int .u32 0, .slice none 0 0]) zeroD s5 _ h1o.out ⟨_, rfl, in5, rInts_none _ _⟩).mono ?_
  rintro e2 w2 ⟨u2, rfl, h2, b2⟩
  rw [Q1.out]
  obtain ⟨D, hD⟩ : ∃ D, putR zeroD s5 = D := ⟨_, rfl⟩
  rw [hD] at h2 Q2 Q3
  replace hD := Lib.hid hD
  have B2 := Lib.hid (B1.out.trans (b2.mono B1.out.size))
  obtain ⟨A2, c2, C2, f2, rfl, _⟩ := id h2.open
  obtain ⟨w3, hw3, y1, hs3, hb3⟩ := box_pair' w2 (.slice A2 D.1.length c2) (.slice C2 D.2.length f2) 30
  have B3 := Lib.hid (B2.out.trans (hb3.mono B2.out.size))
  have h3 := Lib.hid (h2.drop.below hb3)
  obtain ⟨k1, k2, _, _⟩ := two_cells y1
  replace y1 := Lib.hid y1
  replace hs3 := Lib.hid hs3
  clear h2 b2 hb3
  go_upto_region 2 with fail
  clear hw3
  go_wp2_with fail
  with_reducible refine (find_any _ D _ h3.out).mono ?_
  rintro e4 w4 ⟨u4, rfl, h4, b4⟩
  rw [Q2.out]
  rw [Q3.out] at h4
  have B4 := Lib.hid (B3.out.trans (b4.mono B3.out.size))
  obtain ⟨X, xc, ex, l1, l2, hx⟩ := h4
  simp only [List.length_cons, List.length_nil, Nat.zero_add, List.cons.injEq, and_true] at ex l1
  subst ex
  obtain ⟨ad, vs, rfl, e5, e6, e7⟩ := hx 0 s5 rfl
  obtain ⟨dv, rfl, _, _⟩ := rSp_open e7
  have c0 := (e6 0 _ rfl).2
  have c1 := (e6 1 _ rfl).2
  rw [show 0 * 5 + 0 = 0 from rfl] at c0
  rw [show 0 * 5 + 1 = 1 from rfl] at c1
  have c0' : w4.cell? ad = some (.int .u32 5) := by simpa [Addr.add, s5] using c0
  have c1' : w4.cell? ⟨ad.block, ad.off + 1, none⟩ = some (.int .i64 8) := by simpa [Addr.add, s5] using c1
  clear b4 e5 e6 e7 hx c0 c1
  go_wp2_with fail
  go_ret
  exact ⟨rfl, B4.out⟩
end Go.Proofs.Ytdcgcnnofjekaaa

/-
  What stands behind puts, writes, of a disk (plain). Conditions: those that each lemma states.
-/
namespace Go.Proofs.Ytdcgcnnofjekaaa

theorem stands_of {d d' : Dk} (h : ∀ i, i < 4 → standS d i = standS d' i) : stands d = stands d' := by
  rw [stands_eq, stands_eq, h 0 (by omega), h 1 (by omega), h 2 (by omega), h 3 (by omega)]
theorem find_of {d d' : Dk} (h : ∀ i, i < 4 → standS d i = standS d' i) (hm : mayB d = mayB d') : findS d = findS d' ∧ findE d = findE d' := by
  have := stands_of h
  exact ⟨by simp only [findS, this, hm], by simp only [findE, this, hm]⟩
theorem put_may {d : Dk} {s : Sp} (hin : InSp s) (h : putE d s = 0) : mayB (putR d s) = true := by
  obtain ⟨k, hk, hk4⟩ := slot_nat hin
  exact (put_ok hk hk4 (put_zero hin h)).2.2
/-- What stands at a slot behind a put. -/
theorem stand_put0 {d : Dk} {s : Sp} (hin : InSp s) (h : putE d s = 0) (i : Nat) : standS (putR d s) i = if (i : Int) = s.1 % 4 then some s else standS d i := by
  obtain ⟨k, hk, hk4⟩ := slot_nat hin
  rw [stand_put hin hk hk4 (put_zero hin h) i, hk]
  by_cases e : i = k
  · rw [if_pos e, if_pos (by rw [e])]
  · rw [if_neg e, if_neg (by omega)]
/-- Two slots: in either order. -/
theorem put_swap {d : Dk} {s t : Sp} (hs : InSp s) (ht : InSp t) (h1 : putE d s = 0) (h2 : putE (putR d s) t = 0) (h3 : putE d t = 0) (h4 : putE (putR d t) s = 0) (hne : s.1 % 4 ≠ t.1 % 4) :
    findS (putR (putR d s) t) = findS (putR (putR d t) s) := by
  refine (find_of (fun i _ => ?_) (by rw [put_may ht h2, put_may hs h4])).1
  rw [stand_put0 ht h2, stand_put0 hs h1, stand_put0 hs h4, stand_put0 ht h3]
  by_cases e1 : (i : Int) = t.1 % 4
  · rw [if_pos e1, if_pos e1, if_neg (by omega)]
  · rw [if_neg e1, if_neg e1]
/-- Put twice: stands once. -/
theorem put_twice {d : Dk} {t : Sp} (ht : InSp t) (h1 : putE d t = 0) (h2 : putE (putR d t) t = 0) : findS (putR (putR d t) t) = findS (putR d t) ∧ findE (putR (putR d t) t) = findE (putR d t) := by
  refine find_of (fun i _ => ?_) (by rw [put_may ht h2, put_may ht h1])
  rw [stand_put0 ht h2, stand_put0 ht h1]
  by_cases e1 : (i : Int) = t.1 % 4
  · rw [if_pos e1, if_pos e1]
  · rw [if_neg e1, if_neg e1]
/-- What is put is found. -/
theorem find_put {d : Dk} {s : Sp} (hs : InSp s) (h : putE d s = 0) : findE (putR d s) = 0 := by
  obtain ⟨k, hk, hk4⟩ := slot_nat hs
  have hst := stand_put hs hk hk4 (put_zero hs h)
  have hmem : s ∈ stands (putR d s) := by
    unfold stands
    rw [List.mem_filterMap]
    exact ⟨k, by simp; exact hk4, by rw [hst k, if_pos rfl]⟩
  have : (stands (putR d s)).length ≠ 0 := fun e => by
    rw [List.length_eq_zero_iff] at e
    rw [e] at hmem
    cases hmem
  unfold findE
  rw [put_may hs h, if_pos rfl, if_neg this]
/-- Written from 4 on: all stands as it did. -/
theorem stand_far {d : Dk} {n : Int} {b : List UInt8} (h : wErr d n b = 0) (hn : 4 ≤ n) (i : Nat) (hi : i < 4) : standS (wrR d n b) i = standS d i := by
  obtain ⟨hm, ht, h8, h9⟩ := write_fine h (.inr trivial)
  obtain ⟨k, rfl, hk⟩ := thereB_nat ht
  rw [wrR_nat h]
  unfold standS
  rw [seenD_write_ne (by omega)]
theorem find_far {d : Dk} {n : Int} {b : List UInt8} (h : wErr d n b = 0) (hn : 4 ≤ n) : findS (wrR d n b) = findS d ∧ findE (wrR d n b) = findE d := by
  obtain ⟨hm, _⟩ := write_fine h (.inr trivial)
  exact find_of (stand_far h hn) (by rw [(may_wrR h).1, hm])

theorem wr_zero {d : Dk} {s : Sp} (hs : InSp s) (h : putE d s = 0) : ∃ k : Nat, putR d s = wrD d k (blkS s) := by
  obtain ⟨k, hk, hk4⟩ := slot_nat hs
  exact ⟨k, (put_ok hk hk4 (put_zero hs h)).2.1⟩
/-- A crash of one put: it is kept. -/
theorem find_kept {d : Dk} (hm : mayB d = true) (h : d.2.length = 1) : craE d [true] = 0 ∧ findS (craX d [true]) = findS d ∧ findE (craX d [true]) = findE d := by
  have e : craX d [true] = settledD d := by
    unfold craX
    rw [if_pos hm, if_pos (by rw [h]; rfl)]
    unfold keptD
    rw [markedW_all _ _ (by rw [h]; rfl) (by simp)]
  refine ⟨by unfold craE; rw [if_pos hm, if_pos (by rw [h]; rfl)], ?_⟩
  rw [e]
  refine find_of (fun i hi => ?_) (by rw [may_settled hm, hm])
  unfold standS
  rw [seen_settled (by omega)]
/-- A crash of one put: it is not kept. -/
theorem find_lost {d : Dk} {s : Sp} (hs : InSp s) (h : putE d s = 0) (h0 : d.2.length = 0) : craE (putR d s) [false] = 0 ∧ findS (craX (putR d s) [false]) = findS d ∧ findE (craX (putR d s) [false]) = findE d := by
  have hm := put_may hs h
  have hd := (put_zero hs h).may
  obtain ⟨k, hk⟩ := wr_zero hs h
  have hl : (putR d s).2.length = 1 := by rw [hk, wrD_len, h0]
  have e : craX (putR d s) [false] = settledD d := by
    unfold craX
    rw [if_pos hm, if_pos (by rw [hl]; rfl)]
    unfold keptD
    rw [markedW_none _ _ (by simp), hk]
    exact congrArg settledD (Prod.ext rfl (List.length_eq_zero_iff.1 h0).symm)
  refine ⟨by unfold craE; rw [if_pos hm, if_pos (by rw [hl]; rfl)], ?_⟩
  rw [e]
  refine find_of (fun i hi => ?_) (by rw [may_settled hd, hd])
  unfold standS
  rw [seen_settled (by omega)]

/-- Those of other slots. -/
def other (s : Sp) (l : List Sp) : List Sp := l.filter fun r => decide (r.1 % 4 ≠ s.1 % 4)
theorem other_stand {d : Dk} {s : Sp} (i : Nat) : other s (standS d i).toList = if (i : Int) = s.1 % 4 then [] else (standS d i).toList := by
  unfold other
  cases h : standS d i with
  | none => simp
  | some r =>
    have := stand_slot h
    by_cases e : (i : Int) = s.1 % 4 <;> simp [this, e]
theorem other_append (s : Sp) (l m : List Sp) : other s (l ++ m) = other s l ++ other s m := List.filter_append ..
theorem stands_put {d : Dk} {s : Sp} (hs : InSp s) (h : putE d s = 0) : (s :: other s (stands d)).Perm (stands (putR d s)) := by
  obtain ⟨k, hk, hk4⟩ := slot_nat hs
  have hst := stand_put hs hk hk4 (put_zero hs h)
  rw [stands_eq d, stands_eq (putR d s), hst 0, hst 1, hst 2, hst 3]
  simp only [other_append, other_stand, hk]
  rcases (by omega : k = 0 ∨ k = 1 ∨ k = 2 ∨ k = 3) with rfl | rfl | rfl | rfl
  · simp
  · simp
    exact List.perm_middle.symm
  · simp
    rw [← List.append_assoc, ← List.append_assoc]
    exact List.perm_middle.symm
  · simp
    rw [← List.append_assoc, ← List.append_assoc, ← List.append_assoc]
    exact (List.perm_append_singleton s _).symm
/-- The newest one is the first one found; the others stay, in order. -/
theorem find_newest {d : Dk} {s : Sp} (hs : InSp s) (h : putE d s = 0) (hall : ∀ r ∈ findS d, r.1 < s.1) : findS (putR d s) = s :: other s (findS d) := by
  have hd : findS d = sortG (stands d) := by unfold findS; rw [(put_zero hs h).may, if_pos rfl]
  have hp : findS (putR d s) = sortG (stands (putR d s)) := by unfold findS; rw [put_may hs h, if_pos rfl]
  rw [hp]
  refine (stands_sorted ?_ ?_).symm
  · refine List.Perm.trans (List.Perm.cons s ?_) (stands_put hs h)
    rw [hd]
    exact (sortG_perm _).filter _
  · refine List.Pairwise.cons (fun r hr => ?_) ?_
    · have := hall r (List.mem_filter.1 hr).1
      unfold Down
      omega
    · rw [hd]
      exact (sortG_down _).filter _
end Go.Proofs.Ytdcgcnnofjekaaa

/-
  A row of the call's own that holds superblocks whose numbers lie elsewhere. What is put where it may not be. Conditions: those that each lemma states.
-/
namespace Go.Proofs.Ytdcgcnnofjekaaa
open Go.RowKit

def five (p : Sp × Value) : List Value := [.int .u32 p.1.1, .int .i64 p.1.2.1, .int .u32 p.1.2.2.1, .int .u32 p.1.2.2.2.1, p.2]
def fives (ps : List (Sp × Value)) : List Value := (ps.map five).flatten
theorem fives_snoc (ps : List (Sp × Value)) (p : Sp × Value) : fives (ps ++ [p]) = fives ps ++ five p := by simp [fives]
theorem fives_length : ∀ ps : List (Sp × Value), (fives ps).length = ps.length * 5
  | [] => rfl
  | p :: r => by
    have := fives_length r
    simp [fives, five] at this ⊢
    omega
theorem fives_at : ∀ {ps : List (Sp × Value)} {k : Nat} {p : Sp × Value}, ps[k]? = some p → ∀ j v, (five p)[j]? = some v → (fives ps)[k * 5 + j]? = some v
  | q :: r, 0, p, h, j, v, hv => by
    simp at h
    subst h
    have hj : j < (five q).length := (List.getElem?_eq_some_iff.1 hv).1
    show ((five q) ++ fives r)[0 * 5 + j]? = some v
    rw [Nat.zero_mul, Nat.zero_add, List.getElem?_append_left hj, hv]
  | q :: r, k + 1, p, h, j, v, hv => by
    have h' : r[k]? = some p := by simpa using h
    have := fives_at h' j v hv
    show ((five q) ++ fives r)[(k + 1) * 5 + j]? = some v
    have hl : (five q).length = 5 := rfl
    rw [List.getElem?_append_right (by omega), hl, show (k + 1) * 5 + j - 5 = k * 5 + j by omega]
    exact this
def Stays (lo : Nat) (w : World) (A : Option Addr) (c : Nat) (ps : List (Sp × Value)) : Prop := w.ownsRow lo 37 5 (.slice A ps.length c) ps.length (fives ps)
theorem Stays.nil (lo : Nat) (w : World) : Stays lo w none 0 [] := World.ownsRow_nil _ _ _ _
theorem Stays.below {lo : Nat} {w w' : World} {A : Option Addr} {c : Nat} {ps : List (Sp × Value)} (h : Stays lo w A c ps) (hb : Below w.heap.size w w') : Stays lo w' A c ps := own_below h hb
theorem Stays.form {lo : Nat} {w : World} {A : Option Addr} {c : Nat} {ps : List (Sp × Value)} (h : Stays lo w A c ps) : ps.length ≤ c ∧ c ≤ 9223372036854775807 := by
  obtain ⟨_, _, e, h1, h2, _⟩ := own_any h
  cases e
  exact ⟨h1, h2⟩
theorem Stays.push {lo : Nat} {w : World} {A : Option Addr} {c : Nat} {ps : List (Sp × Value)} (h : Stays lo w A c ps) (p : Sp × Value) (g m : Nat) (hg : w.heap[g]? = some (.cells #[.int .u32 p.1.1, .int .i64 p.1.2.1, .int .u32 p.1.2.2.1, .int .u32 p.1.2.2.2.1, p.2] 37 (0, 0))) (hd : p.2.oneCell' = true) (hs : ps.length < 100000) (hlo : lo ≤ w.heap.size) :
    ∃ A' c' w', (Builtin.append_ #[23, 23] 23 #[.slice A ps.length c, .slice (some ⟨g, 0, none⟩) 1 m]).run Try.prog w = .ok (.slice A' (ps ++ [p]).length c') w' ∧ Stays lo w' A' c' (ps ++ [p]) ∧ Below lo w w' := by
  obtain ⟨i0, hi, hz0, hz1, hz2⟩ := info_parts super_info0
  obtain ⟨v', w', hr, o1, _, b1, _⟩ := app_own (P := Try.prog) (w := w) lo 23 23 37 i0 (.agg #[.int .u32 0, .int .i64 0, .int .u32 0, .int .u32 0, .slice none 0 0]) 5 48 Try.underlying23 hi hz0 hz1 hz2 rfl (by decide) _ _ _ h ⟨g, 0, none⟩ 1 m (five p) rfl (World.news_of_block (cs := #[.int .u32 p.1.1, .int .i64 p.1.2.1, .int .u32 p.1.2.2.1, .int .u32 p.1.2.2.2.1, p.2]) hg) (fun u hu => by
    simp [five] at hu
    rcases hu with rfl | rfl | rfl | rfl | rfl <;> first | rfl | exact hd) (by unfold maxLen; omega) (by omega) hlo
  obtain ⟨A', c', rfl, _⟩ := own_any o1
  have hl : (ps ++ [p]).length = ps.length + 1 := by simp
  refine ⟨A', c', w', by rw [hl]; exact hr, ?_, b1⟩
  unfold Stays
  rw [hl, fives_snoc]
  exact o1
theorem Stays.at {lo : Nat} {w : World} {A : Option Addr} {c k : Nat} {ps : List (Sp × Value)} {p : Sp × Value} (h : Stays lo w A c ps) (hp : ps[k]? = some p) : ∃ ad, A = some ad ∧ ∀ W, Below w.heap.size w W → FiveAt ad k p.1 p.2 W := by
  have hk := (List.getElem?_eq_some_iff.1 hp).1
  obtain ⟨_, _, e, _, _, _, h5⟩ := own_any h
  cases e
  obtain ⟨ad, rfl⟩ := h5 (by omega)
  rcases h.2 with ⟨e, e2⟩ | ⟨g, cap', cur, e, hb, hg, _⟩
  · cases e
  · injection e with e1
    injection e1 with e1
    subst e1
    refine ⟨_, rfl, fun W hW => ?_⟩
    have hlt : g < w.heap.size := (Array.getElem?_eq_some_iff.1 hg).1
    have q : ∀ j v, (five p)[j]? = some v → W.cell? ((⟨g, 0, none⟩ : Addr).add (k * 5 + j)) = some v := fun j v hj =>
      (hW.cell (by rw [add_block]; exact hlt)).trans (World.ownsRow.cells h (g := g) rfl _ v (fives_at hp j v hj))
    have t1 := q 1 _ rfl
    have t2 := q 2 _ rfl
    have t3 := q 3 _ rfl
    have t4 := q 4 _ rfl
    rw [add_at] at t1 t2 t3 t4
    exact ⟨q 0 _ rfl, t1, t2, t3, t4⟩
/-- What is not put answers a disk without blocks. -/
theorem put_fails {d : Dk} {s : Sp} (h : putE d s ≠ 0) : (putR d s).1.length = 0 := by
  unfold putE at h
  unfold putR
  cases h1 : mayB d with
  | false => rfl
  | true =>
    cases h2 : mayS s with
    | false => rfl
    | true =>
      rw [h1, h2] at h
      have h' : wErr d (s.1 % 4) (blkS s) ≠ 0 := h
      show (wrR d (s.1 % 4) (blkS s)).1.length = 0
      unfold wrR
      rw [if_neg h']
      rfl
theorem findE_ways {d : Dk} (h : mayB d = true) : findE d = 0 ∨ findE d = 40 := by
  unfold findE
  rw [h, if_pos rfl]
  split
  · exact Or.inr rfl
  · exact Or.inl rfl
theorem other_snoc_no {s x : Sp} {l : List Sp} {k : Nat} (hx : l[k]? = some x) (h : x.1 % 4 = s.1 % 4) : other s (l.take (k + 1)) = other s (l.take k) := by
  unfold other
  rw [List.take_add_one, hx, Option.toList_some, List.filter_append]
  simp [h]
theorem other_snoc_yes {s x : Sp} {l : List Sp} {k : Nat} (hx : l[k]? = some x) (h : x.1 % 4 ≠ s.1 % 4) : other s (l.take (k + 1)) = other s (l.take k) ++ [x] := by
  unfold other
  rw [List.take_add_one, hx, Option.toList_some, List.filter_append]
  simp [h]
theorem all_below_snoc {s x : Sp} {l : List Sp} {k : Nat} (hx : l[k]? = some x) (ha : ∀ r ∈ l.take k, r.1 < s.1) (h : x.1 < s.1) : ∀ r ∈ l.take (k + 1), r.1 < s.1 := fun r hr => by
  rw [List.take_add_one, hx] at hr
  simp at hr
  rcases hr with hr | hr
  · exact ha r hr
  · rw [hr]; exact h
end Go.Proofs.Ytdcgcnnofjekaaa

/-
  The document's answers of layer 4: Stand, Find. Conditions: those that each lemma states.
-/
namespace Go.Proofs.Ytdcgcnnofjekaaa
open Go.RowKit

theorem bool_ways2 (b : Bool) : b = false ∨ b = true := by cases b <;> simp
abbrev Sv := Sp × Value
def insP : List Sv → Sv → List Sv
  | [], s => [s]
  | x :: r, s => if x.1.1 < s.1.1 then s :: x :: r else x :: insP r s
theorem insP_map : ∀ (ps : List Sv) (p : Sv), (insP ps p).map (·.1) = insG (ps.map (·.1)) p.1
  | [], _ => rfl
  | x :: r, p => by
    have := insP_map r p
    unfold insP insG
    simp only [List.map_cons]
    split
    · rfl
    · simp [this]
theorem insP_cons_yes {x s : Sv} {r : List Sv} (h : x.1.1 < s.1.1) : insP (x :: r) s = s :: x :: r := by unfold insP; rw [if_pos h]
theorem insP_cons_no {x s : Sv} {r : List Sv} (h : ¬ x.1.1 < s.1.1) : insP (x :: r) s = x :: insP r s := by rw [insP, if_neg h]
theorem sortG_snoc (l : List Sp) (s : Sp) : sortG (l ++ [s]) = insG (sortG l) s := by simp [sortG]
abbrev svV (p : Sv) : Value := .agg #[.int .u32 p.1.1, .int .i64 p.1.2.1, .int .u32 p.1.2.2.1, .int .u32 p.1.2.2.2.1, p.2]
def Gd (w : World) (p : Sv) : Prop := Sup (Old w) w (svV p) p.1
theorem Gd.below {w w' : World} {p : Sv} (h : Gd w p) (hb : Below w.heap.size w w') : Gd w' p := Sup.below h hb
theorem Gd.one {w : World} {p : Sv} (h : Gd w p) : p.2.oneCell' = true := by
  obtain ⟨d', e, _, hd⟩ := h
  obtain ⟨A, c, e2, _⟩ := rInts_open hd
  have : p.2 = d' := by injection e with e; simpa using e
  rw [this, e2]
  rfl
theorem drop_at {ps : List Sv} {k : Nat} {p : Sv} (h : ps[k]? = some p) : ps.drop k = p :: ps.drop (k + 1) := by
  obtain ⟨hk, hp⟩ := List.getElem?_eq_some_iff.1 h
  rw [List.drop_eq_getElem_cons hk, hp]
/-- How far an insertion is: what is there already, and what is left. -/
def Far (ps : List Sv) (s : Sv) (j : Nat) (q : Bool) (qs : List Sv) : Prop := insP ps s = if q then qs ++ ps.drop j else qs ++ insP (ps.drop j) s
theorem Far.start (ps : List Sv) (s : Sv) : Far ps s 0 false [] := by simp [Far]
theorem Far.done {ps : List Sv} {s x : Sv} {j : Nat} {qs : List Sv} (h : Far ps s j true qs) (hx : ps[j]? = some x) : Far ps s (j + 1) true (qs ++ [x]) := by
  unfold Far at *
  rw [if_pos rfl, drop_at hx] at h
  rw [if_pos rfl, h]
  simp
theorem Far.here {ps : List Sv} {s x : Sv} {j : Nat} {qs : List Sv} (h : Far ps s j false qs) (hx : ps[j]? = some x) (hl : x.1.1 < s.1.1) : Far ps s (j + 1) true (qs ++ [s] ++ [x]) := by
  unfold Far at *
  rw [if_neg (by simp), drop_at hx, insP_cons_yes hl] at h
  rw [if_pos rfl, h]
  simp
theorem Far.on {ps : List Sv} {s x : Sv} {j : Nat} {qs : List Sv} (h : Far ps s j false qs) (hx : ps[j]? = some x) (hl : ¬ x.1.1 < s.1.1) : Far ps s (j + 1) false (qs ++ [x]) := by
  unfold Far at *
  rw [if_neg (by simp), drop_at hx, insP_cons_no hl] at h
  rw [if_neg (by simp), h]
  simp
theorem Far.last {ps : List Sv} {s : Sv} {j : Nat} {q : Bool} {qs : List Sv} (h : Far ps s j q qs) (hj : ps.length ≤ j) : insP ps s = if q then qs else qs ++ [s] := by
  unfold Far at h
  rw [List.drop_eq_nil_of_le hj] at h
  cases q <;> simpa [insP] using h
theorem Stays.low {lo lo' : Nat} {w : World} {A : Option Addr} {c : Nat} {ps : List Sv} (h : Stays lo w A c ps) (hl : lo' ≤ lo) : Stays lo' w A c ps := own_low h hl
/-- A row that holds superblocks reads as these. -/
theorem Stays.rel {lo : Nat} {w : World} {A : Option Addr} {c : Nat} {ps : List Sv} (h : Stays lo w A c ps) (hg : ∀ p ∈ ps, Gd w p) : rSl 5 rSp (Old w) w [.slice A ps.length c] (ps.map (·.1)) := by
  obtain ⟨l1, l2⟩ := h.form
  refine ⟨A, c, by simp, by simpa using l1, l2, fun k x hx => ?_⟩
  rw [List.getElem?_map] at hx
  obtain ⟨p, hp, rfl⟩ := Option.map_eq_some_iff.1 hx
  obtain ⟨ad, rfl, F⟩ := h.at hp
  obtain ⟨z0, z1, z2, z3, z4⟩ := F w (Below.refl _ _)
  have hgp := hg p (List.mem_of_getElem? hp)
  have q : ∀ j v, (five p)[j]? = some v → w.cell? (ad.add (k * 5 + j)) = some v := fun j v hj => by
    match j, hj with
    | 0, hj => cases hj; exact z0
    | 1, hj => cases hj; rw [add_at]; exact z1
    | 2, hj => cases hj; rw [add_at]; exact z2
    | 3, hj => cases hj; rw [add_at]; exact z3
    | 4, hj => cases hj; rw [add_at]; exact z4
  exact ⟨ad, five p, rfl, rfl, fun j v hj => ⟨World.block_lt_of_cell? w _ (q j v hj), q j v hj⟩, Sup.cells hgp⟩
/-- One more, by a literal slice of one. -/
theorem Stays.more {lo : Nat} {w : World} {A : Option Addr} {c : Nat} {ps : List Sv} (h : Stays lo w A c ps) (p : Sv) (n : Nat) (hn : ps.length = n) (hd : p.2.oneCell' = true) (hs : n < 100000) (hlo : lo ≤ w.heap.size) :
    ∃ wB A' c' w', w.alloc (.cells #[.int .u32 p.1.1, .int .i64 p.1.2.1, .int .u32 p.1.2.2.1, .int .u32 p.1.2.2.2.1, p.2] 37) = wB ∧ (Builtin.append_ #[23, 23] 23 #[.slice A n c, .slice (some ⟨w.heap.size, 0, none⟩) 1 1]).run Try.prog wB = .ok (.slice A' (n + 1) c') w' ∧ Stays lo w' A' c' (ps ++ [p]) ∧ Below lo w w' := by
  subst hn
  obtain ⟨wB, hwB, _, _, _, _, _, _, hBB, bB⟩ := box_five w (.int .u32 p.1.1) (.int .i64 p.1.2.1) (.int .u32 p.1.2.2.1) (.int .u32 p.1.2.2.2.1) p.2 37
  obtain ⟨A', c', w', hr, h2, h3⟩ := Stays.push (h.below hBB) p w.heap.size 1 bB hd hs (Nat.le_trans hlo hBB.size)
  rw [show (ps ++ [p]).length = ps.length + 1 by simp] at hr
  exact ⟨wB, A', c', w', hwB, hr, h2, (hBB.mono hlo).trans h3⟩

set_option maxRecDepth 100000 in
set_option maxHeartbeats 16000000 in
theorem refStand_any (v : Value) (d : Dk) (w : World) (h : Dsk (Old w) w v d) (hm : mayB d = true) :
    Calls Try.prog 54 #[v] w fun e w' => ∃ A c ps, e = .returned (.slice A (ps : List Sv).length c) ∧ Stays w.heap.size w' A c ps ∧ ps.map (·.1) = sortG (stands d) ∧ (∀ p ∈ ps, Gd w' p) ∧ ps.length ≤ 4 ∧ Below w.heap.size w w' := by
  obtain ⟨a, b, rfl, _⟩ := id h
  obtain ⟨w1, hw1, b1, hs1, hB1⟩ := box_pair' w a b 30
  obtain ⟨f1, f2, _, lt1⟩ := two_cells b1
  have H1 := Lib.hid (h.below hB1)
  have B1 := Lib.hid hB1
  have hm' := Lib.hid hm
  have hd8 := Lib.hid (show 4 ≤ d.1.length by
    obtain ⟨h1, _⟩ := may_of hm
    omega)
  replace hs1 := Lib.hid hs1
  clear h hB1 b1 hm
  go_enter Try.func54, Try.ntmps54
  go_upto_region 1 with fail
  clear hw1
  go_wp2_with fail
  go_loopw [3, 4] (fun o i wr => ∃ (k : Nat) (A : Option Addr) (c : Nat) (ps : List Sv), k ≤ 4 ∧ i = .int .i64 k ∧ o = .slice A ps.length c ∧ Stays w1.heap.size wr A c ps ∧ ps.map (·.1) = sortG (standsTo d k) ∧ (∀ p ∈ ps, Gd wr p) ∧ ps.length ≤ k ∧ Below w1.heap.size w1 wr) (fun _ i _ => 4 - (intOf i).toNat)
  case atStart => exact ⟨0, none, 0, [], by omega, rfl, rfl, Stays.nil _ _, rfl, fun p hp => by simp at hp, by simp, Below.refl _ _⟩
  case round =>
    obtain ⟨k, A, c, ps, hk, rfl, rfl, hst, hps, hgd, hpk, hb⟩ := hrel
    replace hst := Lib.hid hst
    replace hps := Lib.hid hps
    replace hgd := Lib.hid hgd
    replace hb := Lib.hid hb
    obtain ⟨l1, l2⟩ := hst.out.form
    by_cases hlt : k < 4
    case neg =>
      have hk4 : k = 4 := by omega
      have hfin := Lib.hid (show ps.map (·.1) = sortG (stands d) by rw [hps.out, hk4]; rfl)
      have BF := Lib.hid (B1.out.trans (hb.out.mono B1.out.size))
      replace hk4 := Lib.hid hk4
      go_wp2_with fail
      go_ret
      exact ⟨A, c, ps, rfl, hst.out.low B1.out.size, hfin.out, hgd.out, by omega, BF.out⟩
    have k1 := (hb.out.cell (p := ⟨w.heap.size, 0, none⟩) lt1).trans f1
    have k2 := (hb.out.cell (p := ⟨w.heap.size, 1, none⟩) lt1).trans f2
    have xd := Lib.hid (H1.out.below hb.out)
    go_wp2_with fail
    with_reducible refine (refSeen_any _ d k (by have := hd8.out; omega) _ xd.out).mono ?_
    rintro e2 w2 ⟨u2, rfl, hu2, hb2⟩
    have hlen := Lib.hid (seenD_len hm'.out (show k < 256 by omega))
    have hs2 := Lib.hid (stab_by.old hu2 hb2)
    have C2 := Lib.hid hb2
    clear hu2 hb2 k1 k2 xd
    go_wp2_with fail
    with_reducible refine (refRead4_any _ (seenD d k) _ (by rw [hlen.out]; omega) hs2.out).mono ?_
    rintro e3 w3 ⟨u3, rfl, hu3, hb3⟩
    obtain ⟨r, hr⟩ : ∃ r, reS (seenD d k) = r := ⟨_, rfl⟩
    obtain ⟨re, hre⟩ : ∃ re, reE (seenD d k) = re := ⟨_, rfl⟩
    rw [hr] at hu3
    rw [hre]
    obtain ⟨D, dc, rfl, hin, _⟩ := id hu3.open
    obtain ⟨w4, hw4, s0, s1, s2, s3, s4, hs4, hb4, _⟩ := box_five w3 (.int .u32 r.1) (.int .i64 r.2.1) (.int .u32 r.2.2.1) (.int .u32 r.2.2.2.1) (.slice D r.2.2.2.2.length dc) 37
    have C4 := Lib.hid (C2.out.trans ((hb3.trans (hb4.mono hb3.size)).mono C2.out.size))
    have gr4 : Hid (Gd w4 (r, .slice D r.2.2.2.2.length dc)) := Lib.hid (hu3.drop.below hb4)
    have lt4 : w3.heap.size < w4.heap.size := by omega
    have hsu := Lib.hid (standsTo_succ d k)
    have hno : Hid (standS d k = none → standsTo d (k + 1) = standsTo d k) := Lib.hid fun h => by rw [hsu.out, h]; simp
    have hyes : Hid (standS d k = some r → sortG (standsTo d (k + 1)) = insG (sortG (standsTo d k)) r) := Lib.hid fun h => by rw [hsu.out, h]; exact sortG_snoc _ _
    replace hs4 := Lib.hid hs4
    clear hu3 hb3 hb4
    go_upto_region 6 with fail
    clear hw4
    have B4 := Lib.hid (hb.out.trans (C4.out.mono hb.out.size))
    by_cases he0 : re = 0
    case neg =>
      have hn := Lib.hid (hno.out (standS_bad (by rw [hre]; exact he0)))
      have ht : (re != 0) = true := by simpa using he0
      replace he0 := Lib.hid he0
      replace hre := Lib.hid hre
      replace hr := Lib.hid hr
      go_wp2_with fail
      go_roundw
      case rel => exact ⟨k + 1, A, c, ps, by omega, by go_num, rfl, hst.out.below C4.out, by rw [hn.out]; exact hps.out, fun p hp => (hgd.out p hp).below C4.out, by omega, B4.out⟩
      case measure => simp [intOf]; omega
    subst he0
    obtain ⟨⟨g0, g1⟩, _⟩ := id hin
    replace hin := Lib.hid hin
    go_wp2_with fail
    with_reducible refine (refSlot_any r.1 g0 g1 _).mono ?_
    rintro e5 w5 ⟨rfl, rfl⟩
    obtain ⟨m, hmm⟩ : ∃ m, r.1 % 4 = m := ⟨_, rfl⟩
    rw [hmm]
    by_cases hmk : m = (k : Int)
    case neg =>
      have hn := Lib.hid (hno.out (standS_far (by rw [hr, hmm]; exact hmk)))
      have ht : (m != (k : Int)) = true := by simpa using hmk
      replace hmk := Lib.hid hmk
      replace hre := Lib.hid hre
      replace hr := Lib.hid hr
      replace hmm := Lib.hid hmm
      go_wp2_with fail
      go_roundw
      case rel => exact ⟨k + 1, A, c, ps, by omega, by go_num, rfl, hst.out.below C4.out, by rw [hn.out]; exact hps.out, fun p hp => (hgd.out p hp).below C4.out, by omega, B4.out⟩
      case measure => simp [intOf]; omega
    have hy := Lib.hid (hyes.out (by rw [← hr]; exact standS_yes hre (by rw [hr, hmm]; exact hmk)))
    have ht : (m != (k : Int)) = false := by simpa using hmk
    replace hmk := Lib.hid hmk
    replace hre := Lib.hid hre
    replace hr := Lib.hid hr
    replace hmm := Lib.hid hmm
    have hst4 := Lib.hid (hst.out.below C4.out)
    have hgd4 : Hid (∀ p ∈ ps, Gd w4 p) := Lib.hid fun p hp => (hgd.out p hp).below C4.out
    obtain ⟨sp, hsp⟩ : ∃ sp : Sv, (r, Value.slice D r.2.2.2.2.length dc) = sp := ⟨_, rfl⟩
    have HSB : Hid (∀ W, Below w4.heap.size w4 W → W.cell? ⟨w3.heap.size, 0, none⟩ = some (.int .u32 sp.1.1) ∧ W.cell? ⟨w3.heap.size, 1, none⟩ = some (.int .i64 sp.1.2.1) ∧ W.cell? ⟨w3.heap.size, 2, none⟩ = some (.int .u32 sp.1.2.2.1) ∧ W.cell? ⟨w3.heap.size, 3, none⟩ = some (.int .u32 sp.1.2.2.2.1) ∧ W.cell? ⟨w3.heap.size, 4, none⟩ = some sp.2) := Lib.hid fun W hW => by
      rw [← hsp]
      exact ⟨(hW.cell (p := ⟨w3.heap.size, 0, none⟩) lt4).trans s0, (hW.cell (p := ⟨w3.heap.size, 1, none⟩) lt4).trans s1, (hW.cell (p := ⟨w3.heap.size, 2, none⟩) lt4).trans s2, (hW.cell (p := ⟨w3.heap.size, 3, none⟩) lt4).trans s3, (hW.cell (p := ⟨w3.heap.size, 4, none⟩) lt4).trans s4⟩
    have gsp : Hid (Gd w4 sp) := Lib.hid (by rw [← hsp]; exact gr4.out)
    have hy2 : Hid ((insP ps sp).map (·.1) = sortG (standsTo d (k + 1))) := Lib.hid (by rw [insP_map, hps.out, hy.out, ← hsp])
    have sp1 := Lib.hid gsp.out.one
    replace hsp := Lib.hid hsp
    clear s0 s1 s2 s3 s4
    go_wp2_with fail
    go_loopw [7, 8, 9] (fun ll bq i wr => ∃ (j : Nat) (q : Bool) (E : Option Addr) (ec : Nat) (qs : List Sv), j ≤ ps.length ∧ i = .int .i64 j ∧ bq = .bool q ∧ ll = .slice E qs.length ec ∧ Stays w4.heap.size wr E ec qs ∧ (∀ p ∈ qs, Gd w4 p) ∧ Far ps sp j q qs ∧ qs.length ≤ j + 1 ∧ (q = false → qs.length ≤ j) ∧ Below w4.heap.size w4 wr) (fun _ _ i _ => ps.length - (intOf i).toNat)
    case atStart => exact ⟨0, false, none, 0, [], by omega, rfl, rfl, rfl, Stays.nil _ _, fun p hp => by simp at hp, Far.start _ _, by simp, by simp, Below.refl _ _⟩
    case round =>
      obtain ⟨j, q, E, ec, qs, hj, rfl, rfl, rfl, hs5, hg5, hfar, hql, hqf, hb5⟩ := hrel
      replace hs5 := Lib.hid hs5
      replace hg5 := Lib.hid hg5
      replace hfar := Lib.hid hfar
      replace hqf := Lib.hid hqf
      replace hb5 := Lib.hid hb5
      obtain ⟨m1, m2⟩ := hs5.out.form
      by_cases hltj : j < ps.length
      · obtain ⟨x, hx⟩ : ∃ x, ps[j]? = some x := ⟨_, List.getElem?_eq_getElem hltj⟩
        obtain ⟨ed, rfl, FX0⟩ := hst4.out.at hx
        have FX := Lib.hid FX0
        have hgx := Lib.hid (hgd4.out x (List.mem_of_getElem? hx))
        have hx1 := Lib.hid hgx.out.one
        replace hx := Lib.hid hx
        have i1 : (0 : Int) ≤ (j : Int) := by omega
        have i2 : (j : Int) < (ps.length : Int) := by omega
        clear FX0
        rcases bool_ways2 q with hq | hq
        · subst hq
          go_upto_region 12 with fail
          by_cases hlx : x.1.1 < sp.1.1
          · refine wp_region_as (by kernel_rfl) (fun W => Below wr.heap.size wr W) (fun _ => none) (by kernel_rfl) (Below.refl _ _).drew (fun w w' h hb => h.trans (hb.mono h.size)) (fun j φ x w w' hp => by cases hp) ?_
            repeat (first
              | (refine wpAs_skip rfl ?_; simp only [Act.put, List.setIfInBounds_toArray, List.set_cons_zero, List.set_cons_succ])
              | (refine wpAs_pure (v := ?_) rfl rfl ?_ ?_; rotate_left; (intro W hC hE; clear hE; (have hC2 := hb5.out.trans (hC.mono hb5.out.size); obtain ⟨z0, z1, z2, z3, z4⟩ := FX.out W hC2; obtain ⟨s0, s1, s2, s3, s4⟩ := HSB.out W hC2; clear hC2); clear hC; go_simp; done); simp only [Act.put, List.setIfInBounds_toArray, List.set_cons_zero, List.set_cons_succ])
              | (refine wpAs_pure (v := ?_) rfl rfl ?_ ?_; rotate_left; (intro W hC hE; clear hE; (have hC2 := hb5.out.trans (hC.mono hb5.out.size); obtain ⟨z0, z1, z2, z3, z4⟩ := FX.out W hC2; obtain ⟨s0, s1, s2, s3, s4⟩ := HSB.out W hC2; clear hC2); clear hC; go_simp; with_reducible rfl); simp only [Act.put, List.setIfInBounds_toArray, List.set_cons_zero, List.set_cons_succ]))
            refine wpAs_end fun W1 hC1 hE => ?_
            clear hE
            have BW := Lib.hid (hb5.out.trans (hC1.mono hb5.out.size))
            have hfar' := Lib.hid (hfar.out.here hx.out hlx)
            have hst1 := Lib.hid (hs5.out.below hC1)
            have hqj := hqf.out rfl
            replace hlx := Lib.hid hlx
            clear hC1
            obtain ⟨wB1, E1, ec1, wP1, hwB1, hrP1, hsP1, hbP1⟩ := Stays.more hst1.out sp qs.length rfl sp1.out (by omega) BW.out.size
            have BP1 := Lib.hid (BW.out.trans hbP1)
            have HP1 := Lib.hid hrP1
            replace hsP1 := Lib.hid hsP1
            clear hrP1 hbP1
            obtain ⟨wB2, E2, ec2, wP2, hwB2, hrP2, hsP2, hbP2⟩ := Stays.more hsP1.out x (qs.length + 1) (by simp) hx1.out (by omega) BP1.out.size
            have BP2 := Lib.hid (BP1.out.trans hbP2)
            have HP2 := Lib.hid hrP2
            replace hsP2 := Lib.hid hsP2
            clear hrP2 hbP2
            obtain ⟨s0, s1, s2, s3, s4⟩ := HSB.out W1 BW.out
            obtain ⟨z0, z1, z2, z3, z4⟩ := FX.out wP1 BP1.out
            have hlq : (qs ++ [sp] ++ [x]).length ≤ j + 1 + 1 := by simp; omega
            replace hlq := Lib.hid hlq
            go_wp2_with (first
              | (at_builtin; refine wpList_append_run rfl _ _ _ rfl rfl rfl HP1.out ?_; clear HP1)
              | (at_builtin; refine wpList_append_run rfl _ _ _ rfl rfl rfl HP2.out ?_; clear HP2))
            go_roundw
            case rel => exact ⟨j + 1, true, E2, ec2, qs ++ [sp] ++ [x], by omega, by go_num, rfl, by rw [List.length_append, List.length_append]; rfl, hsP2.out, fun p hp => by
              rcases List.mem_append.1 hp with hp | hp
              · rcases List.mem_append.1 hp with hp | hp
                · exact hg5.out p hp
                · rw [List.mem_singleton.1 hp]; exact gsp.out
              · rw [List.mem_singleton.1 hp]; exact hgx.out, hfar'.out, hlq.out, (fun h => by cases h), BP2.out⟩
            case measure => simp [intOf]; omega
          · have hdx : decide (x.1.1 < sp.1.1) = false := decide_eq_false hlx
            replace hlx := Lib.hid hlx
            refine wp_region_as (by kernel_rfl) (fun W => Below wr.heap.size wr W) (fun _ => none) (by kernel_rfl) (Below.refl _ _).drew (fun w w' h hb => h.trans (hb.mono h.size)) (fun j φ x w w' hp => by cases hp) ?_
            repeat (first
              | (refine wpAs_skip rfl ?_; simp only [Act.put, List.setIfInBounds_toArray, List.set_cons_zero, List.set_cons_succ])
              | (refine wpAs_pure (v := ?_) rfl rfl ?_ ?_; rotate_left; (intro W hC hE; clear hE; (have hC2 := hb5.out.trans (hC.mono hb5.out.size); obtain ⟨z0, z1, z2, z3, z4⟩ := FX.out W hC2; obtain ⟨s0, s1, s2, s3, s4⟩ := HSB.out W hC2; clear hC2); clear hC; go_simp; done); simp only [Act.put, List.setIfInBounds_toArray, List.set_cons_zero, List.set_cons_succ])
              | (refine wpAs_pure (v := ?_) rfl rfl ?_ ?_; rotate_left; (intro W hC hE; clear hE; (have hC2 := hb5.out.trans (hC.mono hb5.out.size); obtain ⟨z0, z1, z2, z3, z4⟩ := FX.out W hC2; obtain ⟨s0, s1, s2, s3, s4⟩ := HSB.out W hC2; clear hC2); clear hC; go_simp; with_reducible rfl); simp only [Act.put, List.setIfInBounds_toArray, List.set_cons_zero, List.set_cons_succ]))
            refine wpAs_end fun W1 hC1 hE => ?_
            clear hE
            have BW := Lib.hid (hb5.out.trans (hC1.mono hb5.out.size))
            have hfar' := Lib.hid (hfar.out.on hx.out hlx.out)
            have hst1 := Lib.hid (hs5.out.below hC1)
            have hqj := hqf.out rfl
            clear hC1 hdx
            obtain ⟨wB1, E1, ec1, wP1, hwB1, hrP1, hsP1, hbP1⟩ := Stays.more hst1.out x qs.length rfl hx1.out (by omega) BW.out.size
            have BP1 := Lib.hid (BW.out.trans hbP1)
            have HP1 := Lib.hid hrP1
            replace hsP1 := Lib.hid hsP1
            clear hrP1 hbP1
            obtain ⟨z0, z1, z2, z3, z4⟩ := FX.out W1 BW.out
            have hlq : (qs ++ [x]).length ≤ j + 1 := by simp; omega
            replace hlq := Lib.hid hlq
            go_wp2_with (at_builtin; refine wpList_append_run rfl _ _ _ rfl rfl rfl HP1.out ?_; clear HP1)
            go_roundw
            case rel => exact ⟨j + 1, false, E1, ec1, qs ++ [x], by omega, by go_num, rfl, by rw [List.length_append]; rfl, hsP1.out, fun p hp => by
              rcases List.mem_append.1 hp with hp | hp
              · exact hg5.out p hp
              · rw [List.mem_singleton.1 hp]; exact hgx.out, hfar'.out, by have := hlq.out; omega, (fun _ => hlq.out), BP1.out⟩
            case measure => simp [intOf]; omega
        · subst hq
          go_upto_region 12 with fail
          have hC1 : Below wr.heap.size wr wr.drew := (Below.refl _ _).drew
          go_region
          generalize wr.drew = W1 at hC1 ⊢
          have BW := Lib.hid (hb5.out.trans (hC1.mono hb5.out.size))
          have hfar' := Lib.hid (hfar.out.done hx.out)
          have hst1 := Lib.hid (hs5.out.below hC1)
          clear hC1
          obtain ⟨wB1, E1, ec1, wP1, hwB1, hrP1, hsP1, hbP1⟩ := Stays.more hst1.out x qs.length rfl hx1.out (by omega) BW.out.size
          have BP1 := Lib.hid (BW.out.trans hbP1)
          have HP1 := Lib.hid hrP1
          replace hsP1 := Lib.hid hsP1
          clear hrP1 hbP1
          obtain ⟨z0, z1, z2, z3, z4⟩ := FX.out W1 BW.out
          have hlq : (qs ++ [x]).length ≤ j + 1 + 1 := by simp; omega
          replace hlq := Lib.hid hlq
          go_wp2_with (at_builtin; refine wpList_append_run rfl _ _ _ rfl rfl rfl HP1.out ?_; clear HP1)
          go_roundw
          case rel => exact ⟨j + 1, true, E1, ec1, qs ++ [x], by omega, by go_num, rfl, by rw [List.length_append]; rfl, hsP1.out, fun p hp => by
            rcases List.mem_append.1 hp with hp | hp
            · exact hg5.out p hp
            · rw [List.mem_singleton.1 hp]; exact hgx.out, hfar'.out, hlq.out, (fun h => by cases h), BP1.out⟩
          case measure => simp [intOf]; omega
      · have hjm : ps.length ≤ j := by omega
        have hla := Lib.hid (hfar.out.last hjm)
        rcases bool_ways2 q with hq | hq
        · subst hq
          have hqj := hqf.out rfl
          obtain ⟨wB1, E1, ec1, wP1, hwB1, hrP1, hsP1, hbP1⟩ := Stays.more hs5.out sp qs.length rfl sp1.out (by omega) hb5.out.size
          have BP1 := Lib.hid (hb5.out.trans hbP1)
          have HP1 := Lib.hid hrP1
          replace hsP1 := Lib.hid hsP1
          clear hrP1 hbP1
          obtain ⟨s0, s1, s2, s3, s4⟩ := HSB.out wr hb5.out
          have hmap := Lib.hid (show (qs ++ [sp]).map (·.1) = sortG (standsTo d (k + 1)) by rw [← hy2.out, hla.out]; rfl)
          have hlq : (qs ++ [sp]).length ≤ k + 1 := by simp; omega
          replace hlq := Lib.hid hlq
          have BO := Lib.hid (hb.out.trans ((C4.out.trans (BP1.out.mono C4.out.size)).mono hb.out.size))
          have B41 := Lib.hid (Nat.le_trans hb.out.size C4.out.size)
          replace hla := Lib.hid hla.out
          go_wp2_with (at_builtin; refine wpList_append_run rfl _ _ _ rfl rfl rfl HP1.out ?_; clear HP1)
          go_roundw
          case rel => exact ⟨k + 1, E1, ec1, qs ++ [sp], by omega, by go_num, by rw [List.length_append]; rfl, hsP1.out.low B41.out, hmap.out, fun p hp => by
            rcases List.mem_append.1 hp with hp | hp
            · exact (hg5.out p hp).below BP1.out
            · rw [List.mem_singleton.1 hp]; exact gsp.out.below BP1.out, hlq.out, BO.out⟩
          case measure => simp [intOf]; omega
        · subst hq
          have hmap := Lib.hid (show qs.map (·.1) = sortG (standsTo d (k + 1)) by rw [← hy2.out, hla.out]; rfl)
          have hlq : qs.length ≤ k + 1 := by omega
          have BO := Lib.hid (hb.out.trans ((C4.out.trans (hb5.out.mono C4.out.size)).mono hb.out.size))
          have B41 := Lib.hid (Nat.le_trans hb.out.size C4.out.size)
          replace hla := Lib.hid hla.out
          go_wp2_with fail
          go_roundw
          case rel => exact ⟨k + 1, E, ec, qs, by omega, by go_num, rfl, hs5.out.low B41.out, hmap.out, fun p hp => (hg5.out p hp).below hb5.out, hlq, BO.out⟩
          case measure => simp [intOf]; omega
end Go.Proofs.Ytdcgcnnofjekaaa

/-
  The document's answers of layer 4: Find. Conditions: those that each lemma states.
-/
namespace Go.Proofs.Ytdcgcnnofjekaaa
open Go.RowKit

set_option maxRecDepth 100000 in
set_option maxHeartbeats 4000000 in
theorem refFind_any (v : Value) (d : Dk) (w : World) (h : Dsk (Old w) w v d) :
    Calls Try.prog 27 #[v] w fun e w' => ∃ u, e = .returned (.tuple #[u, .int .i64 (findE d)]) ∧ rSl 5 rSp (Old w') w' [u] (findS d) ∧ Below w.heap.size w w' := by
  obtain ⟨a, b, rfl, _⟩ := id h
  obtain ⟨w1, hw1, b1, hs1, hB1⟩ := box_pair' w a b 30
  obtain ⟨f1, f2, _, lt1⟩ := two_cells b1
  have H1 := Lib.hid (h.below hB1)
  have B1 := Lib.hid hB1
  replace hs1 := Lib.hid hs1
  clear h hB1 b1
  rcases bool_ways2 (mayB d) with hm | hm
  · have hE := Lib.hid (show findE d = 8 by simp [findE, hm])
    have hS := Lib.hid (show findS d = [] by simp [findS, hm])
    go_enter Try.func27, Try.ntmps27
    go_upto_region 1 with fail
    clear hw1
    go_wp2_with fail
    with_reducible refine (may_any _ d _ H1.out).mono ?_
    rintro e2 w2 ⟨rfl, hb2⟩
    rw [hm]
    have B2 := Lib.hid (B1.out.trans (hb2.mono B1.out.size))
    clear hb2
    replace hm := Lib.hid hm
    go_wp2_with fail
    go_ret2
    exact ⟨.slice none 0 0, ret_two hE.out.symm, by rw [hS.out]; exact ⟨none, 0, rfl, by simp, by omega, fun i x h => by simp at h⟩, B2.out⟩
  · have hE := Lib.hid (show findE d = if (stands d).length = 0 then 40 else 0 by simp [findE, hm])
    have hS := Lib.hid (show findS d = sortG (stands d) by simp [findS, hm])
    have hm' := Lib.hid hm
    go_enter Try.func27, Try.ntmps27
    go_upto_region 1 with fail
    clear hw1
    go_wp2_with fail
    with_reducible refine (may_any _ d _ H1.out).mono ?_
    rintro e2 w2 ⟨rfl, hb2⟩
    rw [hm]
    have B2 := Lib.hid (B1.out.trans (hb2.mono B1.out.size))
    have H2 := Lib.hid (H1.out.below hb2)
    have k1 := (hb2.cell (p := ⟨w.heap.size, 0, none⟩) lt1).trans f1
    have k2 := (hb2.cell (p := ⟨w.heap.size, 1, none⟩) lt1).trans f2
    clear hb2 f1 f2
    replace hm := Lib.hid hm
    go_wp2_with fail
    with_reducible refine (refStand_any _ d _ H2.out hm'.out).mono ?_
    rintro e3 w3 ⟨A, c, ps, rfl, hst, hps, hgd, hl4, hb3⟩
    have B3 := Lib.hid (B2.out.trans (hb3.mono B2.out.size))
    have hrel := Lib.hid (hst.rel hgd)
    rw [hps] at hrel
    have hlen : (stands d).length = ps.length := by
      rw [← (sortG_perm (stands d)).length_eq, ← hps, List.length_map]
    rw [hlen] at hE
    replace hlen := Lib.hid hlen
    replace hps := Lib.hid hps
    clear hst hgd hb3 k1 k2
    by_cases h0 : ps.length = 0
    · have hE0 := Lib.hid (show findE d = 40 by rw [hE.out, if_pos h0])
      have hS0 := Lib.hid (show findS d = [] by rw [hS.out]; exact List.eq_nil_of_length_eq_zero (by rw [(sortG_perm _).length_eq, hlen.out, h0]))
      have t0 : ((ps.length : Int) == 0) = true := by simp; exact List.eq_nil_of_length_eq_zero h0
      clear h0
      go_wp2_with fail
      go_ret2
      exact ⟨.slice none 0 0, ret_two hE0.out.symm, by rw [hS0.out]; exact ⟨none, 0, rfl, by simp, by omega, fun i x h => by simp at h⟩, B3.out⟩
    · have hE0 := Lib.hid (show findE d = 0 by rw [hE.out, if_neg h0])
      have t0 : ((ps.length : Int) == 0) = false := by simpa using h0
      go_wp2_with fail
      go_ret2
      exact ⟨_, ret_two hE0.out.symm, by rw [hS.out]; exact hrel.out, B3.out⟩
end Go.Proofs.Ytdcgcnnofjekaaa

/-
  The document's answers of layer 3, of cells that the caller names: With, Write. Conditions: those that each lemma states.
-/
namespace Go.Proofs.Ytdcgcnnofjekaaa
open Go.RowKit

/-- Cells that are such, or were made behind w. -/
def OkNew (ok : Addr → Prop) (w w' : World) (p : Addr) : Prop := ok p ∨ (w.heap.size ≤ p.block ∧ p.block < w'.heap.size)
theorem wts_cells_ok {ok : Addr → Prop} {w : World} (hok : ∀ p, ok p → p.block < w.heap.size) {B : Option Addr} {ws : List Wt} (h : ∀ i x, ws[i]? = some x → ∃ ad v, B = some ad ∧ ok (ad.add (i * 2)) ∧ ok (ad.add (i * 2 + 1)) ∧ w.cell? (ad.add (i * 2)) = some (.int .i64 x.1) ∧ w.cell? (ad.add (i * 2 + 1)) = some v ∧ rBy ok w [v] x.2 ∧ -9223372036854775808 ≤ x.1 ∧ x.1 ≤ 9223372036854775807) :
    ∃ ps : List (Int × Value), ps.length = ws.length ∧ (∀ j v, (wcells ps)[j]? = some v → ∃ ad, B = some ad ∧ ad.block < w.heap.size ∧ w.cell? (ad.add j) = some v) ∧ (∀ u ∈ wcells ps, u.oneCell' = true) ∧
      ∀ (i : Nat) (p : Int × Value) (x : Wt), ps[i]? = some p → ws[i]? = some x → p.1 = x.1 ∧ rBy ok w [p.2] x.2 ∧ -9223372036854775808 ≤ x.1 ∧ x.1 ≤ 9223372036854775807 := by
  obtain ⟨ps, hl, hv⟩ := list_of (n := ws.length) (p := fun i (p : Int × Value) => ∃ ad, B = some ad ∧ ad.block < w.heap.size ∧ w.cell? (ad.add (i * 2)) = some (.int .i64 p.1) ∧ w.cell? (ad.add (i * 2 + 1)) = some p.2 ∧ p.2.oneCell' = true ∧ ∀ x, ws[i]? = some x → p.1 = x.1 ∧ rBy ok w [p.2] x.2 ∧ -9223372036854775808 ≤ x.1 ∧ x.1 ≤ 9223372036854775807) (fun i hi => by
    obtain ⟨ad, v, e, ho, _, hc, hc2, hb, b1, b2⟩ := h i _ (List.getElem?_eq_getElem hi)
    obtain ⟨E, c, rfl, _⟩ := rBy_open hb
    refine ⟨(ws[i].1, _), ad, e, by have := hok _ ho; rwa [add_block] at this, hc, hc2, rfl, fun x hx => ?_⟩
    rw [List.getElem?_eq_getElem hi] at hx
    cases hx
    exact ⟨rfl, hb, b1, b2⟩)
  refine ⟨ps, hl, fun j v hj => ?_, fun u hu => ?_, fun i p x hi hx => ?_⟩
  · have hjl : j < ps.length * 2 := by rw [← wcells_length]; exact (List.getElem?_eq_some_iff.1 hj).1
    have hp : ps[j / 2]? = some (ps[j / 2]'(by omega)) := List.getElem?_eq_getElem _
    obtain ⟨ad, e, hb, hc, hc2, _⟩ := hv _ _ hp
    obtain ⟨g1, g2⟩ := wcells_get hp
    rcases Nat.mod_two_eq_zero_or_one j with h0 | h0
    · rw [show j / 2 * 2 = j by omega] at g1 hc
      rw [hj] at g1
      cases g1
      exact ⟨ad, e, hb, hc⟩
    · rw [show j / 2 * 2 + 1 = j by omega] at g2 hc2
      rw [hj] at g2
      cases g2
      exact ⟨ad, e, hb, hc2⟩
  · simp only [wcells, List.mem_flatMap] at hu
    obtain ⟨p, hp, hu⟩ := hu
    obtain ⟨j, hj⟩ := List.getElem?_of_mem hp
    obtain ⟨_, _, _, _, _, h1, _⟩ := hv j p hj
    simp at hu
    rcases hu with rfl | rfl
    · rfl
    · exact h1
  · obtain ⟨_, _, _, _, _, _, h1⟩ := hv i p hi
    exact h1 x hx

set_option maxRecDepth 100000 in
set_option maxHeartbeats 4000000 in
theorem refWith_ok (ok : Addr → Prop) (v u : Value) (d : Dk) (k : Nat) (xs : List UInt8) (w : World) (hok : ∀ p, ok p → p.block < w.heap.size) (h : Dsk ok w v d) (hu : rBy ok w [u] xs) (hf : d.2.length < 4096) (hk : k < 256) :
    Calls Try.prog 78 #[v, .int .i64 k, u] w fun e w' => ∃ x, e = .returned x ∧ Dsk (OkNew ok w w') w' x (wrD d k xs) ∧ Below w.heap.size w w' := by
  obtain ⟨i0, hi, hz0, hz1, hz2⟩ := info_parts wts_info0
  obtain ⟨A, c, B, c', rfl, l1, m1, l2, m2, _, hB⟩ := h.open
  obtain ⟨E, ce, rfl, lE, mE, _⟩ := id (rBy_open hu)
  obtain ⟨ps, hps, hpc, hp1, hpx⟩ := wts_cells_ok hok hB
  have hrows := h.parts.1
  have hub := Lib.hid hu
  have hpx' := Lib.hid hpx
  clear hB h hu hpx
  obtain ⟨n, hn⟩ : ∃ n, d.1.length = n := ⟨_, rfl⟩
  obtain ⟨m, hm⟩ : ∃ m, d.2.length = m := ⟨_, rfl⟩
  rw [hn] at l1 hrows ⊢
  replace hrows := Lib.hid hrows
  rw [hm] at l2 hps hf ⊢
  replace hn := Lib.hid hn
  replace hm := Lib.hid hm
  obtain ⟨w2, hw2, f1, f2, f3, hsz, hB2⟩ := box_two w (.slice A n c) (.slice B m c') #[.slice none 0 0, .slice none 0 0] 30
  obtain ⟨w3, hw3, g3, hs3, hB3⟩ := box_pair' w2 (.slice A n c) (.slice none 0 0) 30
  have hB23 := hB2.trans (hB3.mono hB2.size)
  -- the waits, copied
  obtain ⟨v1, w4, hr1, own1, gr1, ba1⟩ := app_any (P := Try.prog) (w := w3) w3.heap.size 28 28 88 i0 (.agg #[.int .i64 0, .slice none 0 0]) 2 32 Try.underlying28 hi hz0 hz1 hz2 rfl (by decide) (.slice none 0 0) 0 [] (World.ownsRow_nil _ _ _ _) B m c' (wcells ps) (by rw [wcells_length, hps])
    (fun j u hj => by
      obtain ⟨ad, e, ho, hc⟩ := hpc j u hj
      exact ⟨ad, e, (hB23.cell (p := ad.add j) (by rw [add_block]; exact ho)).trans hc⟩) hp1 (by unfold maxLen; omega) (by omega) (Nat.le_refl _)
  rw [Nat.zero_add, List.nil_append] at own1
  obtain ⟨A1, c1, rfl, o1, o2, _, _⟩ := own_any own1
  have g4 := (ba1.block w2.heap.size (by omega)).trans g3
  obtain ⟨w5, hw5, g5, gr5, gs5⟩ := put_snd (u := .slice A1 m c1) g4
  have own5 := own1.kept gr5 (.inr (fun e => by have := (own1.lt _ e).1; omega))
  obtain ⟨w6, hw6, g6, hs6, hB6⟩ := box_pair' w5 (.int .i64 k) (.slice E xs.length ce) 88
  have own6 := own_below own5 hB6
  have s4 := ba1.size
  -- one write more
  obtain ⟨v2, w7, hr2, own7, gr7, ba2⟩ := app_any (P := Try.prog) (w := w6) w3.heap.size 28 28 88 i0 (.agg #[.int .i64 0, .slice none 0 0]) 2 32 Try.underlying28 hi hz0 hz1 hz2 rfl (by decide) (.slice A1 m c1) m (wcells ps) own6 (some ⟨w5.heap.size, 0, none⟩) 1 1 [.int .i64 (k : Int), .slice E xs.length ce] rfl
    (fun j u hj => ⟨_, rfl, World.news_of_block (cs := #[.int .i64 (k : Int), .slice E xs.length ce]) g6 j u hj⟩) (fun u hu => by
      simp at hu
      rcases hu with rfl | rfl <;> rfl) (by unfold maxLen; omega) (by omega) (by omega)
  obtain ⟨A2, c2, rfl, q1, q2, _, _⟩ := own_any own7
  have g7 := (ba2.block w2.heap.size (by omega)).trans ((hB6.block w2.heap.size (by omega)).trans g5)
  obtain ⟨w8, hw8, g8, gr8, gs8⟩ := put_snd (u := .slice A2 (m + 1) c2) g7
  have s7 := ba2.size
  have b8 : w8.heap[w.heap.size + 1]? = some (.cells #[.slice none 0 0, .slice none 0 0] 30 (0, 0)) :=
    (gr8.block _ (by omega) (fun e => by simp only [Option.some.injEq] at e; omega)).trans ((ba2.block _ (by omega)).trans ((hB6.block _ (by omega)).trans ((gr5.block _ (by omega) (fun e => by simp only [Option.some.injEq] at e; omega)).trans ((ba1.block _ (by omega)).trans ((hB3.block _ (by omega)).trans f3)))))
  obtain ⟨w9, hw9, g9, gr9, gs9⟩ := put_two (u := .slice A n c) (v := .slice A2 (m + 1) c2) b8
  obtain ⟨k5, k6, _, _⟩ := two_cells g9
  have own9 := (own7.kept gr8 (.inr (fun e => by have := (own7.lt _ e).1; omega))).kept gr9 (.inr (fun e => by have := (own7.lt _ e).1; omega))
  have B4 : Below w.heap.size w w4 := hB23.trans (ba1.mono hB23.size)
  have B5 := B4.grown gr5 B4.size (fun q e => by cases e; omega)
  have B6 := B5.trans (hB6.mono B5.size)
  have B7 : Below w.heap.size w w7 := B6.trans (ba2.mono hB23.size)
  have B8 := B7.grown gr8 B7.size (fun q e => by cases e; omega)
  have B9 := B8.grown gr9 B8.size (fun q e => by cases e; omega)
  have mp : ∀ p v, ok p → w.cell? p = some v → OkNew ok w w9 p ∧ w9.cell? p = some v := fun p v hp hc => ⟨.inl hp, (B9.cell (hok p hp)).trans hc⟩
  have hfin := Lib.hid (show Dsk (OkNew ok w w9) w9 (.agg #[.slice A n c, .slice A2 (m + 1) c2]) (wrD d k xs) from by
    refine ⟨_, _, rfl, stab_sl stab_by _ _ _ _ _ _ mp hrows.out, ?_⟩
    have e1 : wcells ps ++ [.int .i64 (k : Int), .slice E xs.length ce] = wcells (ps ++ [((k : Int), .slice E xs.length ce)]) := by rw [wcells_append]; rfl
    rw [e1] at own9
    refine own_wts_ok (fun p _ hp => .inr ⟨Nat.le_trans (by omega) hp.1, hp.2.1⟩) own9 (by simp [wrD, hm.out]) (fun i p x hp hx => ?_)
    rcases Nat.lt_or_ge i m with hi | hi
    · rw [List.getElem?_append_left (by omega)] at hp
      rw [show (wrD d k xs).2 = d.2 ++ [((k : Int), xs)] from rfl, List.getElem?_append_left (by rw [hm.out]; exact hi)] at hx
      obtain ⟨e, h1, h2, h3⟩ := hpx'.out i p x hp hx
      exact ⟨e, stab_by _ _ _ _ _ _ mp h1, h2, h3⟩
    · rw [List.getElem?_append_right (by omega)] at hp
      rw [show (wrD d k xs).2 = d.2 ++ [((k : Int), xs)] from rfl, List.getElem?_append_right (by rw [hm.out]; exact hi)] at hx
      have hi0 : i - ps.length = 0 := by
        have := (List.getElem?_eq_some_iff.1 hp).1
        simp at this
        omega
      rw [hi0] at hp
      rw [show i - d.2.length = 0 by have := hm.out; omega] at hx
      cases hp
      cases hx
      exact ⟨rfl, stab_by _ _ _ _ _ _ mp hub.out, by omega, by omega⟩)
  have H1 := Lib.hid hr1
  have H2 := Lib.hid hr2
  obtain ⟨z1, z2, z3, _⟩ := two_cells g4
  obtain ⟨z4, z5, z6, _⟩ := two_cells g5
  obtain ⟨y1, y2, y3, _⟩ := two_cells g7
  obtain ⟨y4, y5, _, _⟩ := two_cells g8
  obtain ⟨x1, x2, x3, _⟩ := two_cells b8
  obtain ⟨x4, x5, _, _⟩ := two_cells g3
  have f4 := (hB3.cell (p := ⟨w.heap.size, 1, none⟩) (show w.heap.size < w2.heap.size by omega)).trans f2
  replace B9 := Lib.hid B9
  replace mp := Lib.hid mp
  clear hr1 hr2 own1 own5 own6 own7 own9 gr1 gr5 gr7 gr8 gr9 B4 B5 B6 B7 B8 hpc hp1 hps g3 g4 g5 g6 g7 g8 b8 ba1 ba2 hB6 hB23 hB2 hB3 f3
  replace hsz := Lib.hid hsz
  replace hs3 := Lib.hid hs3
  replace hs6 := Lib.hid hs6
  replace gs5 := Lib.hid gs5
  replace gs8 := Lib.hid gs8
  replace gs9 := Lib.hid gs9
  clear s4 s7
  replace hw3 := Lib.hid hw3
  go_enter Try.func78, Try.ntmps78
  go_upto_region 2 with fail
  rw [hw3.out]
  clear hw3 hw2 x4
  go_wp2_with (first
    | (at_builtin; refine wpList_append_run rfl _ _ _ rfl rfl rfl H1.out ?_; clear H1)
    | (at_builtin; refine wpList_append_run rfl _ _ _ rfl rfl rfl H2.out ?_; clear H2))
  exact bodyPost_ret (v := .agg #[.slice A n c, .slice A2 (m + 1) c2]) (by simp [results, Try.results78, go_sem, k5, k6]) rfl ⟨_, rfl, hfin.out, B9.out⟩
set_option maxRecDepth 100000 in
set_option maxHeartbeats 4000000 in
theorem refWrite_ok (ok : Addr → Prop) (v u : Value) (d : Dk) (n : Int) (xs : List UInt8) (w : World) (hok : ∀ p, ok p → p.block < w.heap.size) (h : Dsk ok w v d) (hu : rBy ok w [u] xs) (he : wErr d n xs = 0) :
    Calls Try.prog 53 #[v, .int .i64 n, u] w fun e w' => ∃ x, e = .returned (.tuple #[x, .int .i64 0]) ∧ Dsk (OkNew ok w w') w' x (wrR d n xs) ∧ Below w.heap.size w w' := by
  obtain ⟨A, c, B, c', rfl, _⟩ := id h.open
  obtain ⟨E, ce, rfl, _⟩ := id (rBy_open hu)
  obtain ⟨w2, hw2, f1, f2, f3, hsz, hB⟩ := box_two w (.slice A d.1.length c) (.slice B d.2.length c') #[.slice none 0 0, .slice none 0 0] 30
  have H := Lib.hid (show Dsk (Old w2) w2 _ d from h.map fun p v hp hc => ⟨Nat.lt_of_lt_of_le (hok p hp) hB.size, (hB.cell (hok p hp)).trans hc⟩)
  replace h := Lib.hid h
  replace hu := Lib.hid hu
  replace hsz := Lib.hid hsz
  go_enter Try.func53, Try.ntmps53
  go_upto_region 1 with fail
  clear hw2
  go_wp2_with fail
  with_reducible refine (may_any _ d _ H.out).mono ?_
  rintro er w3 ⟨rfl, hb3⟩
  have f4 := (hb3.block (w.heap.size + 1) (by rw [hsz.out]; omega)).trans f3
  have g1 := (hb3.cell (p := ⟨w.heap.size, 0, none⟩) (by rw [hsz.out]; simp)).trans f1
  have g2 := (hb3.cell (p := ⟨w.heap.size, 1, none⟩) (by rw [hsz.out]; simp)).trans f2
  obtain ⟨k1, k2, k3, k4⟩ := two_cells f4
  have hB3 := hB.trans (hb3.mono hB.size)
  have hl3 : w.heap.size + 2 ≤ w3.heap.size := by have := hsz.out; have := hb3.size; omega
  have mp3 : ∀ p v, ok p → w.cell? p = some v → ok p ∧ w3.cell? p = some v := fun p v hp hc => ⟨hp, (hB3.cell (hok p hp)).trans hc⟩
  have hok3 := Lib.hid (show ∀ p, ok p → p.block < w3.heap.size from fun p hp => Nat.lt_of_lt_of_le (hok p hp) hB3.size)
  have h3 := Lib.hid (h.out.map mp3)
  have hu3 := Lib.hid (stab_by _ _ _ _ _ _ mp3 hu.out)
  replace hok := Lib.hid hok
  clear f1 f2 H mp3
  replace f3 := Lib.hid f3
  obtain ⟨hm, ht, h8, h9⟩ := write_fine he (.inr trivial)
  obtain ⟨k, rfl, hk⟩ := thereB_nat ht
  have hr : Hid (wrR d (k : Int) xs = wrD d k xs) := Lib.hid (by simp [wrR, he])
  have hw := Lib.hid he
  rw [hm]
  have i1 : ¬ (k : Int) < 0 := by omega
  have i2 : ¬ (256 : Int) ≤ (k : Int) := by omega
  have i3 : ((xs.length : Int) != 128) = false := by rw [h8]; rfl
  have i4 : ¬ (4096 : Int) ≤ (d.2.length : Int) := by omega
  replace h8 := Lib.hid h8
  replace f4 := Lib.hid f4
  clear he hm ht
  go_wp2_with fail
  with_reducible refine (refWith_ok ok _ _ d k xs _ hok3.out h3.out hu3.out h9 hk).mono ?_
  rintro es w4 ⟨x, rfl, hx, hb4⟩
  obtain ⟨A4, c4, B4, d4, rfl, _⟩ := id hx.open
  have f5 := (hb4.block (w.heap.size + 1) (by omega)).trans f4.out
  obtain ⟨y1, y2, y3, _⟩ := two_cells f5
  obtain ⟨W9, hW9, g9, gr9, gs9⟩ := put_two (u := .slice A4 (wrD d k xs).1.length c4) (v := .slice B4 (wrD d k xs).2.length d4) f5
  obtain ⟨k5, k6, _, _⟩ := two_cells g9
  have hB9 := (hB3.trans (hb4.mono hB3.size)).grown gr9 (Nat.le_trans hB3.size hb4.size) (fun q e => by cases e; omega)
  have hfin := Lib.hid (show Dsk (OkNew ok w W9) W9 (.agg #[.slice A4 (wrD d k xs).1.length c4, .slice B4 (wrD d k xs).2.length d4]) (wrD d k xs) from
    hx.map fun p v hp hc => by
      have hlt : p.block < w4.heap.size := hp.elim (fun hp => Nat.lt_of_lt_of_le (hok3.out p hp) hb4.size) (fun hp => hp.2)
      have hs : W9.heap[p.block]? = w4.heap[p.block]? := gr9.block _ hlt (fun e => by
        simp only [Option.some.injEq] at e
        rcases hp with hp | hp
        · have := hok.out p hp
          omega
        · omega)
      exact ⟨hp.imp id fun hp => ⟨Nat.le_trans hB3.size hp.1, by omega⟩, (World.cell?_of_block hs).trans hc⟩)
  replace f5 := Lib.hid f5
  replace g9 := Lib.hid g9
  clear hx gr9
  go_wp2_with fail
  exact bodyPost_ret (v := .tuple #[.agg #[.slice A4 (wrD d k xs).1.length c4, .slice B4 (wrD d k xs).2.length d4], .int .i64 0]) (by simp [results, Try.results53, go_sem, k5, k6]) rfl ⟨_, rfl, by rw [hr.out]; exact hfin.out, hB9⟩
end Go.Proofs.Ytdcgcnnofjekaaa

/-
  The document's answers of layer 4: Put. Conditions: those that each lemma states.
-/
namespace Go.Proofs.Ytdcgcnnofjekaaa
open Go.RowKit

theorem refWrite_all (ok : Addr → Prop) (v u : Value) (d : Dk) (n : Int) (xs : List UInt8) (w : World) (hok : ∀ p, ok p → p.block < w.heap.size) (h : Dsk ok w v d) (hu : rBy ok w [u] xs) :
    Calls Try.prog 53 #[v, .int .i64 n, u] w fun e w' => ∃ x, e = .returned (.tuple #[x, .int .i64 (wErr d n xs)]) ∧ Dsk (OkNew ok w w') w' x (wrR d n xs) ∧ Below w.heap.size w w' := by
  by_cases he : wErr d n xs = 0
  · rw [he]
    exact refWrite_ok ok v u d n xs w hok h hu he
  · have mp : ∀ p v, ok p → w.cell? p = some v → Old w p ∧ w.cell? p = some v := fun p v hp hc => ⟨hok p hp, hc⟩
    refine (refWrite_any v u d n xs w (h.map mp) (stab_by _ _ _ _ _ _ mp hu)).mono ?_
    rintro e w' ⟨x, rfl, hx, hb⟩
    refine ⟨x, rfl, ?_, hb⟩
    rw [show wrR d n xs = emptyD by simp [wrR, he]] at hx ⊢
    obtain ⟨A, c, B, f, rfl, l1, m1, l2, m2, _⟩ := hx.open
    exact ⟨_, _, rfl, ⟨A, c, rfl, l1, m1, fun i x h => by simp [emptyD] at h⟩, ⟨B, f, rfl, l2, m2, fun i x h => by simp [emptyD] at h⟩⟩

set_option maxRecDepth 100000 in
set_option maxHeartbeats 8000000 in
theorem refPut_any (ok : Addr → Prop) (v u : Value) (d : Dk) (s : Sp) (w : World) (hok : ∀ p, ok p → p.block < w.heap.size) (h : Dsk ok w v d) (hu : Sup (Old w) w u s) :
    Calls Try.prog 26 #[v, u] w fun e w' => ∃ x, e = .returned (.tuple #[x, .int .i64 (putE d s)]) ∧ Dsk (OkNew ok w w') w' x (putR d s) ∧ Below w.heap.size w w' := by
  obtain ⟨A, c, B, f, rfl, _⟩ := id h.open
  obtain ⟨D, dc, rfl, hin, _⟩ := id hu.open
  have ho : Dsk (Old w) w _ d := h.map fun p v hp hc => ⟨hok p hp, hc⟩
  obtain ⟨w1, hw1, b1, hs1, hB1⟩ := box_pair' w (.slice A d.1.length c) (.slice B d.2.length f) 30
  obtain ⟨w2, hw2, z0, z1, z2, z3, z4, hs2, hB2, _⟩ := box_five w1 (.int .u32 s.1) (.int .i64 s.2.1) (.int .u32 s.2.2.1) (.int .u32 s.2.2.2.1) (.slice D s.2.2.2.2.length dc) 37
  obtain ⟨w3, hw3, b3, hs3, hB3⟩ := box_pair' w2 (.slice none 0 0) (.slice none 0 0) 30
  obtain ⟨f1, f2, _, lt1⟩ := two_cells b1
  have G1 := (((Bag.nil w).add (F := OldD (.agg #[.slice A d.1.length c, .slice B d.2.length f]) d) ho (lasts_oldD _ _)).add (F := OldS (supV s D dc) s) hu (lasts_oldS _ _)).below hB1
  have G2 := (G1.add (F := Box2 w.heap.size (.slice A d.1.length c) (.slice B d.2.length f)) ⟨f1, f2, lt1⟩ (lasts_box _ _ _)).below hB2
  have HG := Lib.hid ((G2.add (F := Box5 w1.heap.size (.int .u32 s.1) (.int .i64 s.2.1) (.int .u32 s.2.2.1) (.int .u32 s.2.2.2.1) (.slice D s.2.2.2.2.length dc)) ⟨z0, z1, z2, z3, z4, by omega⟩ (lasts_box5 _ _ _ _ _ _)).below hB3)
  have B3 := Lib.hid ((hB1.trans (hB2.mono hB1.size)).trans (hB3.mono (hB1.trans (hB2.mono hB1.size)).size))
  obtain ⟨⟨g0, g1⟩, _, _, _⟩ := hin
  have LT := Lib.hid (show w.heap.size < w1.heap.size ∧ w1.heap.size < w2.heap.size ∧ w2.heap.size < w3.heap.size from ⟨by omega, by omega, by omega⟩)
  have mpk : Hid (∀ W, Below w3.heap.size w3 W → ∀ p v, ok p → w.cell? p = some v → OkNew ok w3 W p ∧ W.cell? p = some v) := Lib.hid fun W hb p v hp hc => ⟨.inl hp, ((B3.out.trans (hb.mono B3.out.size)).cell (hok p hp)).trans hc⟩
  have hh := Lib.hid h
  replace hok := Lib.hid hok
  replace hw3 := Lib.hid hw3
  replace b3 := Lib.hid b3
  have hPE : Hid (putE d s = if mayB d then (if mayS s then wErr d (s.1 % 4) (blkS s) else 8) else 8) := Lib.hid rfl
  have hPR : Hid (putR d s = if mayB d then (if mayS s then wrR d (s.1 % 4) (blkS s) else emptyD) else emptyD) := Lib.hid rfl
  clear f1 f2 b1 z0 z1 z2 z3 z4 hs1 hs2 hs3 hB1 hB2 hB3 G1 G2 h hu lt1 ho
  go_enter Try.func26, Try.ntmps26
  go_upto_region 1 with fail
  rw [hw3.out]
  clear hw1 hw2 hw3
  obtain ⟨k1, k2, _⟩ := HG.out.at 1 rfl
  have xd : Dsk (Old w3) w3 _ _ := HG.out.at 3 rfl
  go_wp2_with fail
  with_reducible refine (may_any _ d _ xd).mono ?_
  rintro e4 w4 ⟨rfl, hb4⟩
  have B4 := Lib.hid (B3.out.trans (hb4.mono B3.out.size))
  have C4 := Lib.hid hb4
  replace HG := Lib.hid (HG.out.below hb4)
  clear hb4 xd k1 k2
  have b4 := (C4.out.block w2.heap.size LT.out.2.2).trans b3.out
  have bad : ∀ (W : World), Below w3.heap.size w3 W → putR d s = emptyD → ∃ W9 : World, (W.setCell ⟨w2.heap.size, 0, none⟩ (.slice none 0 0)).setCell ⟨w2.heap.size, 1, none⟩ (.slice none 0 0) = W9 ∧ W.cell? ⟨w2.heap.size, 0, none⟩ = some (.slice none 0 0) ∧ W.cell? ⟨w2.heap.size, 1, none⟩ = some (.slice none 0 0) ∧ (∀ o, W.frozen? ⟨w2.heap.size, o, none⟩ = false) ∧
      W9.cell? ⟨w2.heap.size, 0, none⟩ = some (.slice none 0 0) ∧ W9.cell? ⟨w2.heap.size, 1, none⟩ = some (.slice none 0 0) ∧ Hid (Dsk (OkNew ok w W9) W9 (.agg #[.slice none 0 0, .slice none 0 0]) (putR d s) ∧ Below w.heap.size w W9) := fun W hb hno => by
    have bW := (hb.block w2.heap.size LT.out.2.2).trans b3.out
    obtain ⟨c1, c2, c3, _⟩ := two_cells bW
    obtain ⟨W9, hW9, g9, gr9, gs9⟩ := put_two (u := .slice none 0 0) (v := .slice none 0 0) bW
    obtain ⟨c4, c5, _, _⟩ := two_cells g9
    have BW := B3.out.trans (hb.mono B3.out.size)
    exact ⟨W9, hW9, c1, c2, c3, c4, c5, Lib.hid ⟨by rw [hno]; exact (dsk_empty_new w.heap.size _).map (fun p v hp hc => ⟨.inr ⟨hp.1, hp.2.1⟩, hc⟩), BW.grown gr9 BW.size (fun q e => by cases e; have := LT.out; omega)⟩⟩
  replace bad := Lib.hid bad
  replace b4 := Lib.hid b4
  cases hm : mayB d with
  | false =>
    have hE := Lib.hid (show putE d s = 8 by rw [hPE.out, hm]; rfl)
    obtain ⟨W9, hW9, c1, c2, c3, k5, k6, hz⟩ := bad.out w4 C4.out (by rw [hPR.out, hm]; rfl)
    replace hm := Lib.hid hm
    go_wp2_with fail
    exact bodyPost_ret (v := .tuple #[.agg #[.slice none 0 0, .slice none 0 0], .int .i64 8]) (by simp [results, Try.results26, go_sem, k5, k6]) rfl ⟨_, ret_two hE.out.symm, hz.out.1, hz.out.2⟩
  | true =>
    obtain ⟨s0, s1, s2, s3, s4, _⟩ := HG.out.at 0 rfl
    have xs : Sup (Old w4) w4 _ _ := HG.out.at 2 rfl
    have hm' := Lib.hid hm
    clear hm
    go_wp2_with fail
    with_reducible refine (mayRefS_any _ s _ xs).mono ?_
    rintro e5 w5 ⟨rfl, hb5⟩
    have B5 := Lib.hid (B4.out.trans (hb5.mono B4.out.size))
    have C5 := Lib.hid (C4.out.trans (hb5.mono C4.out.size))
    replace HG := Lib.hid (HG.out.below hb5)
    clear hb5 xs s0 s1 s2 s3 s4
    cases hms : mayS s with
    | false =>
      have hE := Lib.hid (show putE d s = 8 by rw [hPE.out, hm'.out, hms]; rfl)
      obtain ⟨W9, hW9, c1, c2, c3, k5, k6, hz⟩ := bad.out w5 C5.out (by rw [hPR.out, hm'.out, hms]; rfl)
      replace hms := Lib.hid hms
      go_wp2_with fail
      exact bodyPost_ret (v := .tuple #[.agg #[.slice none 0 0, .slice none 0 0], .int .i64 8]) (by simp [results, Try.results26, go_sem, k5, k6]) rfl ⟨_, ret_two hE.out.symm, hz.out.1, hz.out.2⟩
    | true =>
      have hE' := Lib.hid (show putE d s = wErr d (s.1 % 4) (blkS s) by rw [hPE.out, hm'.out, hms]; rfl)
      have hR := Lib.hid (show putR d s = wrR d (s.1 % 4) (blkS s) by rw [hPR.out, hm'.out, hms]; rfl)
      replace hms := Lib.hid hms
      obtain ⟨t, ht⟩ : ∃ t, s.1 % 4 = t := ⟨_, rfl⟩
      rw [ht] at hE' hR
      obtain ⟨R, hRe⟩ : ∃ R, wrR d t (blkS s) = R := ⟨_, rfl⟩
      obtain ⟨q, hq⟩ : ∃ q, wErr d t (blkS s) = q := ⟨_, rfl⟩
      rw [hRe] at hR
      rw [hq] at hE'
      replace ht := Lib.hid ht
      replace hRe := Lib.hid hRe
      replace hq := Lib.hid hq
      have HQ : Hid (∀ W, Below w5.heap.size w5 W → Bag W _) := Lib.hid fun W hb => HG.out.below hb
      have okW : Hid (∀ W, Below w5.heap.size w5 W → ∀ p, OkNew ok w3 W p → p.block < W.heap.size) := Lib.hid fun W hb p hp => hp.elim (fun hp => Nat.lt_of_lt_of_le (hok.out p hp) (Nat.le_trans B5.out.size hb.size)) (fun hp => hp.2)
      have okS : Hid (∀ W W', Below w5.heap.size w5 W → Below W.heap.size W W' → ∀ p v, OkNew ok w3 W p → W.cell? p = some v → OkNew ok w3 W' p ∧ W'.cell? p = some v) := Lib.hid fun W W' hC hb p v hp hc => ⟨hp.imp id fun hp => ⟨hp.1, Nat.lt_of_lt_of_le hp.2 hb.size⟩, (hb.cell (okW.out W hC p hp)).trans hc⟩
      go_wp2_with fail
      refine wp_region_tails (by kernel_rfl) 9 (fun W => Below w5.heap.size w5 W) (fun i => match i with
          | 5 => some (fun v W => Below w5.heap.size w5 W ∧ rBy (OkNew ok w3 W) W [v] (blkS s))
          | 6 => some (fun v W => Below w5.heap.size w5 W ∧ ∃ x, v = .tuple #[x, .int .i64 q] ∧ Dsk (OkNew ok w3 W) W x R)
          | 7 => some (fun v W => Below w5.heap.size w5 W ∧ Dsk (OkNew ok w3 W) W v R)
          | _ => none) (fun i => match i with
          | 3 => some (.int .i64 t)
          | 8 => some (.int .i64 q)
          | _ => none) (by decide) (by kernel_rfl) (by kernel_rfl) (Below.refl _ _).drew (fun w w' h hb => h.trans (hb.mono h.size)) ?tst ?_
      case tst =>
        intro j φ x W W' hp hx hb
        match j, hp with
        | 5, hp =>
          cases hp
          exact ⟨hx.1.trans (hb.mono hx.1.size), stab_by _ _ _ _ _ _ (okS.out W W' hx.1 hb) hx.2⟩
        | 6, hp =>
          cases hp
          obtain ⟨hC, y, e, hy⟩ := hx
          exact ⟨hC.trans (hb.mono hC.size), y, e, hy.map (okS.out W W' hC hb)⟩
        | 7, hp =>
          cases hp
          exact ⟨hx.1.trans (hb.mono hx.1.size), hx.2.map (okS.out W W' hx.1 hb)⟩
      simp only [List.take_succ_cons, List.take_zero, List.drop_succ_cons, List.drop_zero]
      repeat (first
        | (refine wpAs_skip rfl ?_; simp only [Act.put, List.setIfInBounds_toArray, List.set_cons_zero, List.set_cons_succ])
        | (refine wpAs_pure (v := ?_) rfl rfl ?_ ?_; rotate_left; (intro W hC hE; clear hE; (obtain ⟨s0, s1, s2, s3, s4, _⟩ := (HQ.out W hC).at 0 rfl; obtain ⟨k1, k2, _⟩ := (HQ.out W hC).at 1 rfl); clear hC; go_simp; done); simp only [Act.put, List.setIfInBounds_toArray, List.set_cons_zero, List.set_cons_succ])
        | (refine wpAs_pure (v := ?_) rfl rfl ?_ ?_; rotate_left; (intro W hC hE; clear hE; (obtain ⟨s0, s1, s2, s3, s4, _⟩ := (HQ.out W hC).at 0 rfl; obtain ⟨k1, k2, _⟩ := (HQ.out W hC).at 1 rfl); clear hC; go_simp; with_reducible rfl); simp only [Act.put, List.setIfInBounds_toArray, List.set_cons_zero, List.set_cons_succ]))
      refine wpAs_fixed rfl rfl rfl ?_ ?_
      · intro W hC hE
        refine does_enter (f := 23) (args := #[.int .u32 s.1]) ?_ ?_
        · go_simp
        · refine (refSlot_any s.1 g0 g1 W).mono ?_
          rintro e W' ⟨rfl, rfl⟩
          rw [ht.out]
          exact ⟨_, rfl, rfl, Below.refl _ _⟩
      simp only [Act.put, List.setIfInBounds_toArray, List.set_cons_zero, List.set_cons_succ]
      repeat (first
        | (refine wpAs_skip rfl ?_; simp only [Act.put, List.setIfInBounds_toArray, List.set_cons_zero, List.set_cons_succ])
        | (refine wpAs_pure (v := ?_) rfl rfl ?_ ?_; rotate_left; (intro W hC hE; clear hE; (obtain ⟨s0, s1, s2, s3, s4, _⟩ := (HQ.out W hC).at 0 rfl; obtain ⟨k1, k2, _⟩ := (HQ.out W hC).at 1 rfl); clear hC; go_simp; done); simp only [Act.put, List.setIfInBounds_toArray, List.set_cons_zero, List.set_cons_succ])
        | (refine wpAs_pure (v := ?_) rfl rfl ?_ ?_; rotate_left; (intro W hC hE; clear hE; (obtain ⟨s0, s1, s2, s3, s4, _⟩ := (HQ.out W hC).at 0 rfl; obtain ⟨k1, k2, _⟩ := (HQ.out W hC).at 1 rfl); clear hC; go_simp; with_reducible rfl); simp only [Act.put, List.setIfInBounds_toArray, List.set_cons_zero, List.set_cons_succ]))
      refine wpAs_act rfl rfl ?_ ?_
      · intro W hC hE
        clear hE
        refine does_enter (f := 46) (args := #[.agg #[.int .u32 s.1, .int .i64 s.2.1, .int .u32 s.2.2.1, .int .u32 s.2.2.2.1, .slice D s.2.2.2.2.length dc]]) ?_ ?_
        · go_simp
        · refine (refBlock_any _ s W ((HQ.out W hC).at 2 rfl : Sup (Old W) W _ _) hms.out).mono ?_
          rintro e W' ⟨x, rfl, hx, hb⟩
          exact ⟨_, rfl, ⟨hC.trans (hb.mono hC.size), stab_by _ _ _ _ _ _ (fun p v hp hc => ⟨.inr ⟨Nat.le_trans (Nat.le_trans C5.out.size hC.size) hp.1, hp.2.1⟩, hc⟩) (own_by hx)⟩, hb⟩
      simp only [Act.put, List.setIfInBounds_toArray, List.set_cons_zero, List.set_cons_succ, envAdd]
      intro x28
      refine wpAs_act rfl rfl ?_ ?_
      · intro W hC hE
        have hu := (hE.1 rfl).2
        clear hE
        refine does_enter (f := 53) (args := #[.agg #[.slice A d.1.length c, .slice B d.2.length f], .int .i64 t, x28]) ?_ ?_
        · go_simp
        · refine (refWrite_all (OkNew ok w3 W) _ _ d t (blkS s) W (okW.out W hC) (hh.out.map (mpk.out W (C5.out.trans (hC.mono C5.out.size)))) hu).mono ?_
          rintro e W' ⟨x, rfl, hx, hb⟩
          rw [hRe.out] at hx
          rw [hq.out]
          exact ⟨_, rfl, ⟨hC.trans (hb.mono hC.size), x, rfl, hx.map fun p v hp hc => ⟨hp.elim (fun hp => hp.imp id fun hp => ⟨hp.1, Nat.lt_of_lt_of_le hp.2 hb.size⟩) (fun hp => .inr ⟨Nat.le_trans (Nat.le_trans C5.out.size hC.size) hp.1, hp.2⟩), hc⟩⟩, hb⟩
      simp only [Act.put, List.setIfInBounds_toArray, List.set_cons_zero, List.set_cons_succ, envAdd]
      intro x29
      refine wpAs_act rfl rfl ?_ ?_
      · intro W hC hE
        obtain ⟨_, x, rfl, hx⟩ := hE.1 rfl
        clear hE
        replace hx := Lib.hid hx
        replace hC := Lib.hid hC
        go_simp
        exact ⟨⟨hC.out, hx.out⟩, Below.refl _ _⟩
      simp only [Act.put, List.setIfInBounds_toArray, List.set_cons_zero, List.set_cons_succ, envAdd]
      intro x30
      refine wpAs_fixed rfl rfl rfl ?_ ?_
      · intro W hC hE
        obtain ⟨_, x, rfl, hx⟩ := hE.2.1 rfl
        clear hE hC hx
        go_simp
        exact ⟨rfl, Below.refl _ _⟩
      simp only [Act.put, List.setIfInBounds_toArray, List.set_cons_zero, List.set_cons_succ]
      refine wpAs_end fun W hC hE => ?_
      have hx := hE.1.2
      obtain ⟨X, xc, Y, yc, rfl, _⟩ := id hx.open
      have CW := C5.out.trans (hC.mono C5.out.size)
      have bW := (CW.block w2.heap.size LT.out.2.2).trans b3.out
      obtain ⟨c1, c2, c3, _⟩ := two_cells bW
      obtain ⟨W9, hW9, g9, gr9, gs9⟩ := put_two (u := .slice X R.1.length xc) (v := .slice Y R.2.length yc) bW
      obtain ⟨k5, k6, _, _⟩ := two_cells g9
      have BW := B5.out.trans (hC.mono B5.out.size)
      have hfin : Hid (Dsk (OkNew ok w W9) W9 (.agg #[.slice X R.1.length xc, .slice Y R.2.length yc]) (putR d s) ∧ Below w.heap.size w W9) := Lib.hid ⟨by
        rw [hR.out]
        exact hx.map fun p v hp hc => by
          have hlt := okW.out W hC p hp
          have h0 := LT.out
          have h3 := B3.out.size
          have hs : W9.heap[p.block]? = W.heap[p.block]? := gr9.block _ hlt (fun e => by
            simp only [Option.some.injEq] at e
            rcases hp with hp | hp
            · have := hok.out p hp
              omega
            · omega)
          exact ⟨hp.imp id fun hp => ⟨by omega, by omega⟩, (World.cell?_of_block hs).trans hc⟩, BW.grown gr9 BW.size (fun q e => by cases e; have := LT.out; omega)⟩
      replace g9 := Lib.hid g9
      replace bW := Lib.hid bW
      clear hE hx gr9 BW CW hC
      go_wp2_with fail
      exact bodyPost_ret (v := .tuple #[.agg #[.slice X R.1.length xc, .slice Y R.2.length yc], .int .i64 q]) (by simp [results, Try.results26, go_sem, k5, k6]) rfl ⟨_, ret_two hE'.out.symm, hfin.out.1, hfin.out.2⟩
end Go.Proofs.Ytdcgcnnofjekaaa
