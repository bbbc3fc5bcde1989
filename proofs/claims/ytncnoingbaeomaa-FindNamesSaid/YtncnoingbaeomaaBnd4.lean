/-
  Lemmas on the program and on the document's answers, gathered: DrMk, DrLaw, FnLaw, FnAlive. Conditions: those that each lemma states.
-/
import Derived.Test.YtncnoingbaeomaaBnd3
/-
  Package drop: Make. Conditions: those that each lemma states.
-/
namespace Go.Proofs.Ytncnoingbaeomaa
open Go.RowKit

theorem mkE_store {s : Rm} {n : Nd} (h : mayR s = false) : mkE s n = 8 := by rw [mkE, h]; rfl
theorem mkE_node {s : Rm} {n : Nd} (h : mayN n = false) : mkE s n = 8 := by rw [mkE, h]; simp

set_option maxRecDepth 100000 in
set_option maxHeartbeats 8000000 in
theorem makeV_any (v u : Value) (s : Rm) (n : Nd) (w : World) (h : Sto (Old w) w v s) (hu : Nod (Old w) w u n) :
    Calls Try.prog 24 #[v, u] w fun e w' => ∃ t, e = .returned (.tuple #[t, .int .i64 (mkN s n), .int .i64 (mkE s n)]) ∧ Sto (New w.heap.size w') w' t (mkV s n) ∧ Below w.heap.size w w' := by
  obtain ⟨A, ca, B, cb, N, cn, L, cl, rfl, _⟩ := id h.open
  obtain ⟨I, ci, rfl, _⟩ := id hu.open
  obtain ⟨w1, hw1, f1, fn, f2, hsz, hB⟩ := box_three3 (w := w) (.slice A s.1.1.length ca) (.slice B s.1.2.length cb) (.slice N s.2.1.length cn) (.slice L s.2.2.length cl) (.int .i64 n.1) (.slice I n.2.length ci)
  have H := Lib.hid (h.below hB)
  have U := Lib.hid (hu.below hB)
  clear h hu
  obtain ⟨k0, k1, k2, k3, _, kg⟩ := four_cells f1
  obtain ⟨p0, p1, _, pg⟩ := two_cells fn
  replace hsz := Lib.hid hsz
  replace f2 := Lib.hid f2
  cases hm : mayR s with
  | false =>
    have hE := mkE_store (n := n) hm
    obtain ⟨hN, hV⟩ := mk_no (s := s) (n := n) (by rw [hE]; decide)
    have e1 := chkR_bad hm
    replace hE := Lib.hid hE
    replace hN := Lib.hid hN
    replace hV := Lib.hid hV
    go_enter Try.func24, Try.ntmps24
    go_upto_region 1 with fail
    clear hw1
    go_wp2_with fail
    with_reducible refine (checkR_any _ s _ H.out).mono ?_
    rintro e w2 ⟨rfl, hb2⟩
    rw [e1]
    have F2 := (hb2.block (w.heap.size + 2) (by rw [hsz.out]; omega)).trans f2.out
    replace hb2 := Lib.hid (hB.trans (hb2.mono hB.size))
    clear k0 k1 k2 k3 kg p0 p1 pg f1 fn hB e1 hm
    obtain ⟨k0, k1, k2, k3, k4, k5⟩ := four_cells F2
    obtain ⟨W9, hW9, g9, gr9, gs9⟩ := put_four (a' := .slice none 0 0) (b' := .slice none 0 0) (c' := .slice none 0 0) (d' := .slice none 0 0) F2
    obtain ⟨n0, n1, n2, n3, _, _⟩ := four_cells g9
    have hB9 := Lib.hid ((hb2).out.grown gr9 (hb2).out.size (fun q e => by cases e; omega))
    replace g9 := Lib.hid g9
    replace F2 := Lib.hid F2
    clear gr9 gs9
    go_wp2_with fail
    refine bodyPost_ret (v := .tuple #[.agg #[.slice none 0 0, .slice none 0 0, .slice none 0 0, .slice none 0 0], .int .i64 0, .int .i64 8]) (by simp [results, Try.results24, go_sem, n0, n1, n2, n3]) rfl ?_
    rw [hE.out, hN.out, hV.out]
    exact ⟨_, rfl, sto_empty _ _, hB9.out⟩
  | true =>
  have e1 := chkR_ok hm
  obtain ⟨b, hb⟩ : ∃ b, wrN n = b := ⟨_, rfl⟩
  obtain ⟨q, hq⟩ : ∃ q, chkN n = q := ⟨_, rfl⟩
  replace hb := Lib.hid hb
  replace hq := Lib.hid hq
  have hlen := Lib.hid (mayT_len (mayR_of hm).2.1)
  go_enter Try.func24, Try.ntmps24
  go_upto_region 1 with fail
  clear hw1
  go_wp2_with fail
  with_reducible refine (checkR_any _ s _ H.out).mono ?_
  rintro e w2 ⟨rfl, hb2⟩
  rw [e1]
  have F1 := (hb2.block w.heap.size kg).trans f1
  have Fn := (hb2.block (w.heap.size + 1) pg).trans fn
  have F2 := (hb2.block (w.heap.size + 2) (by rw [hsz.out]; omega)).trans f2.out
  have H2 := H.out.below hb2
  have U2 := U.out.below hb2
  have s2 : Hid (w.heap.size + 3 ≤ w2.heap.size) := Lib.hid (by have := hb2.size; have := hsz.out; omega)
  have B2 := Lib.hid (hB.trans (hb2.mono hB.size))
  clear k0 k1 k2 k3 kg p0 p1 pg f1 fn hb2 hB f2 e1 H U
  obtain ⟨k0, k1, k2, k3, _, kg⟩ := four_cells F1
  obtain ⟨p0, p1, _, pg⟩ := two_cells Fn
  replace F2 := Lib.hid F2
  replace H2 := Lib.hid H2
  replace U2 := Lib.hid U2
  go_wp2_with fail
  with_reducible refine (nodeWrite_any _ n _ U2.out).mono ?_
  rintro e w3 ⟨u3, rfl, h3, hb3⟩
  rw [hq.out]
  rw [hb.out] at h3
  obtain ⟨E, ce, rfl, _⟩ := id (rBy_open h3)
  have G1 := (hb3.block w.heap.size kg).trans F1
  have Gn := (hb3.block (w.heap.size + 1) pg).trans Fn
  have G2 := (hb3.block (w.heap.size + 2) (by have := s2.out; omega)).trans F2.out
  have H3 := H2.out.below hb3
  have U3 := U2.out.below hb3
  have s3 : Hid (w.heap.size + 3 ≤ w3.heap.size) := Lib.hid (by have := hb3.size; have := s2.out; omega)
  have B3 := Lib.hid (B2.out.trans (hb3.mono B2.out.size))
  have R3 := Lib.hid (stab_by.drop h3)
  clear k0 k1 k2 k3 kg p0 p1 pg F1 Fn hb3 F2 H2 U2 B2 h3 s2
  cases hn : mayN n with
  | false =>
    have hE := mkE_node (s := s) hn
    obtain ⟨hN, hV⟩ := mk_no (s := s) (n := n) (by rw [hE]; decide)
    have hq8 : q = 8 := by rw [← hq.out, chkN, hn]; rfl
    subst hq8
    replace hE := Lib.hid hE
    replace hN := Lib.hid hN
    replace hV := Lib.hid hV
    clear H3 U3 G1 Gn hn hm
    obtain ⟨k0, k1, k2, k3, k4, k5⟩ := four_cells G2
    obtain ⟨W9, hW9, g9, gr9, gs9⟩ := put_four (a' := .slice none 0 0) (b' := .slice none 0 0) (c' := .slice none 0 0) (d' := .slice none 0 0) G2
    obtain ⟨n0, n1, n2, n3, _, _⟩ := four_cells g9
    have hB9 := Lib.hid ((B3).out.grown gr9 (B3).out.size (fun q e => by cases e; omega))
    replace g9 := Lib.hid g9
    replace G2 := Lib.hid G2
    clear gr9 gs9
    go_wp2_with fail
    refine bodyPost_ret (v := .tuple #[.agg #[.slice none 0 0, .slice none 0 0, .slice none 0 0, .slice none 0 0], .int .i64 0, .int .i64 8]) (by simp [results, Try.results24, go_sem, n0, n1, n2, n3]) rfl ?_
    rw [hE.out, hN.out, hV.out]
    exact ⟨_, rfl, sto_empty _ _, hB9.out⟩
  | true =>
  have hq0 : q = 0 := by rw [← hq.out, chkN, hn]; rfl
  subst hq0
  have hbk : Hid (blkN n = b) := Lib.hid (by rw [← hb.out, wrN, hn]; rfl)
  have hways := Lib.hid (mk_ways hm hn)
  obtain ⟨k0, k1, k2, k3, _, kg⟩ := four_cells G1
  obtain ⟨p0, p1, _, pg⟩ := two_cells Gn
  replace G2 := Lib.hid G2
  replace H3 := Lib.hid H3
  replace U3 := Lib.hid U3
  go_wp2_with fail
  obtain ⟨_, _, e9, l1, m1, hby⟩ := rBy_byt (B := w3.heap.size) (fun _ h => h) H3.out.parts.2.1
  cases e9
  with_reducible refine (clone_any N s.2.1.length cn s.2.1 (Lib.hid rfl) (by rw [hlen.out]; omega) _ hby).mono ?_
  rintro e w4 ⟨u4, rfl, hu4, hb4⟩
  obtain ⟨g, c2, rfl, hg1, hg2, hg3, hg4⟩ := own_head hu4 (by rw [hlen.out]; omega)
  rw [hlen.out] at hu4 ⊢
  have F1 := (hb4.block w.heap.size kg).trans G1
  have Fn := (hb4.block (w.heap.size + 1) pg).trans Gn
  have F2 := Lib.hid ((hb4.block (w.heap.size + 2) (by have := s3.out; omega)).trans G2.out)
  have H4 := Lib.hid (show Sto (Off g w4) w4 _ s from H3.out.map fun _ _ hp hc => off_low hb4 hg1 hp hc)
  have U4 := Lib.hid (show Nod (Off g w4) w4 _ n from U3.out.map fun _ _ hp hc => off_low hb4 hg1 hp hc)
  have R4 := Lib.hid (show rBy (Off g w4) w4 _ b from stab_by _ _ _ _ _ _ (fun _ _ hp hc => off_low hb4 hg1 hp hc) R3.out)
  have O4 := Lib.hid hu4
  have B4 := Lib.hid (B3.out.trans (hb4.mono B3.out.size))
  have hgw : Hid (w.heap.size + 3 ≤ g) := Lib.hid (by have := s3.out; omega)
  clear k0 k1 k2 k3 kg p0 p1 pg G1 Gn G2 hb4 H3 U3 R3 B3 hby l1 m1 hu4 hg1 s3
  obtain ⟨k0, k1, k2, k3, _, kg⟩ := four_cells F1
  obtain ⟨p0, p1, _, pg⟩ := two_cells Fn
  obtain ⟨r, hr⟩ : ∃ r, ctE s.2.1 n.2 = r := ⟨_, rfl⟩
  go_wp2_with fail
  with_reducible refine (refer_any g c2 w3.heap.size s.2.1 _ n hn hlen.out _ O4.out U4.out).mono ?_
  rintro e w5 ⟨rfl, hgr, hown⟩
  rw [hr] at hown ⊢
  have E1 := (hgr.block w.heap.size kg (by have := hgw.out; simp; omega)).trans F1
  have E3 := (hgr.block (w.heap.size + 2) (by have := F2.out; exact (Array.getElem?_eq_some_iff.1 this).1) (by have := hgw.out; simp; omega)).trans F2.out
  have B5 := Lib.hid (B4.out.grown hgr B4.out.size (fun q e => by cases e; have := hgw.out; omega))
  have H5 := Lib.hid (show Sto (Old w5) w5 _ s from (H4.out.map fun _ _ hp hc => off_put hgr hp hc).map fun _ _ hp hc => off_old hp hc)
  have R5 := Lib.hid (show rBy (Old w5) w5 _ b from stab_by _ _ _ _ _ _ (fun _ _ hp hc => off_old hp hc) (stab_by _ _ _ _ _ _ (fun _ _ hp hc => off_put hgr hp hc) R4.out))
  clear k0 k1 k2 k3 kg p0 p1 pg F1 Fn F2 B4 H4 U4 R4 O4 hgr
  rcases hways.out with ⟨hc, hE, hN, hV⟩ | ⟨hc, hE, hN, hV⟩
  · rw [hr] at hc hE
    have hr1 : (r != 0) = true := by simpa using hc
    replace hE := Lib.hid hE
    replace hN := Lib.hid hN
    replace hV := Lib.hid hV
    replace hr := Lib.hid hr
    clear E1 hown hc hm hn hways
    obtain ⟨k0, k1, k2, k3, k4, k5⟩ := four_cells E3
    obtain ⟨W9, hW9, g9, gr9, gs9⟩ := put_four (a' := .slice none 0 0) (b' := .slice none 0 0) (c' := .slice none 0 0) (d' := .slice none 0 0) E3
    obtain ⟨n0, n1, n2, n3, _, _⟩ := four_cells g9
    have hB9 := Lib.hid ((B5).out.grown gr9 (B5).out.size (fun q e => by cases e; omega))
    replace g9 := Lib.hid g9
    replace E3 := Lib.hid E3
    clear gr9 gs9
    go_wp2_with fail
    refine bodyPost_ret (v := .tuple #[.agg #[.slice none 0 0, .slice none 0 0, .slice none 0 0, .slice none 0 0], .int .i64 0, .int .i64 r]) (by simp [results, Try.results24, go_sem, n0, n1, n2, n3]) rfl ?_
    rw [hE.out, hN.out, hV.out]
    exact ⟨_, rfl, sto_empty _ _, hB9.out⟩
  · rw [hr] at hc
    subst hc
    rw [hbk.out] at hE hN hV
    have hctl : (ctV s.2.1 n.2).length = 256 := by rw [ctV_len, hlen.out]
    have T5 : Hid (Sto (Old w5) w5 (.agg #[.slice A s.1.1.length ca, .slice B s.1.2.length cb, .slice (some ⟨g, 0, none⟩) 256 c2, .slice L s.2.2.length cl]) (ctS s n)) := Lib.hid (Sto.mk H5.out.parts.1 (stab_by.drop (own_by (hown rfl))) H5.out.parts.2.2)
    obtain ⟨S, hS⟩ : ∃ S, ctS s n = S := ⟨_, rfl⟩
    rw [hS] at T5 hE hN hV
    obtain ⟨V, hVV⟩ : ∃ V, tkV S b = V := ⟨_, rfl⟩
    obtain ⟨x, hx⟩ : ∃ x, tkN S b = x := ⟨_, rfl⟩
    obtain ⟨y, hy⟩ : ∃ y, tkE S b = y := ⟨_, rfl⟩
    rw [hVV] at hV
    rw [hx] at hN
    rw [hy] at hE
    replace hE := Lib.hid hE
    replace hN := Lib.hid hN
    replace hV := Lib.hid hV
    replace hr := Lib.hid hr
    replace hS := Lib.hid hS
    replace hVV := Lib.hid hVV
    replace hx := Lib.hid hx
    replace hy := Lib.hid hy
    obtain ⟨k0, k1, k2, k3, _, kg⟩ := four_cells E1
    replace E3 := Lib.hid E3
    clear hown hm hn hways hctl
    go_wp2_with fail
    with_reducible refine (takeR_any _ _ S b _ T5.out R5.out).mono ?_
    rintro e w6 ⟨t6, rfl, h6, hb6⟩
    rw [hx.out, hy.out]
    rw [hVV.out] at h6
    obtain ⟨A6, a6, B6, b6, N6, n6, L6, l6, rfl, _⟩ := id h6.open
    have F6 := (hb6.block (w.heap.size + 2) (by exact (Array.getElem?_eq_some_iff.1 E3.out).1)).trans E3.out
    have s6 : Hid (w.heap.size + 2 < w5.heap.size) := Lib.hid (Array.getElem?_eq_some_iff.1 E3.out).1
    obtain ⟨o0, o1, o2, o3, _, _⟩ := four_cells F6
    obtain ⟨W9, hW9, g9, gr9, gs9⟩ := put_four (a' := .slice A6 V.1.1.length a6) (b' := .slice B6 V.1.2.length b6) (c' := .slice N6 V.2.1.length n6) (d' := .slice L6 V.2.2.length l6) F6
    obtain ⟨n0, n1, n2, n3, _, _⟩ := four_cells g9
    have hfin := Lib.hid (show Sto (New w.heap.size W9) W9 _ V from (h6.grown gr9 (fun q e => by cases e; exact s6.out)).new B5.out.size (Below.refl _ _))
    have hB9 := Lib.hid ((B5.out.trans (hb6.mono B5.out.size)).grown gr9 (Nat.le_trans B5.out.size hb6.size) (fun q e => by cases e; omega))
    replace F6 := Lib.hid F6
    replace g9 := Lib.hid g9
    clear gr9 gs9 h6 hb6 k0 k1 k2 k3 kg E1
    go_wp2_with fail
    refine bodyPost_ret (v := .tuple #[.agg #[.slice A6 V.1.1.length a6, .slice B6 V.1.2.length b6, .slice N6 V.2.1.length n6, .slice L6 V.2.2.length l6], .int .i64 x, .int .i64 y]) (by simp [results, Try.results24, go_sem, n0, n1, n2, n3]) rfl ?_
    rw [hE.out, hN.out, hV.out]
    exact ⟨_, rfl, hfin.out, hB9.out⟩
end Go.Proofs.Ytncnoingbaeomaa

/-
  Layer 9: the contracts as laws want them; the laws' alive. Conditions: those that each lemma states.
-/
namespace Go.Proofs.Ytncnoingbaeomaa
open Go.RowKit

theorem makeV_open (v u : Value) (s : Rm) (n : Nd) (w : World) (h : Sto (Old w) w v s) (hu : Nod (Old w) w u n) :
    Calls Try.prog 24 #[v, u] w fun e W' => ∃ A ca B cb N cn L cl, e = .returned (.tuple #[.agg #[.slice A (mkV s n).1.1.length ca, .slice B (mkV s n).1.2.length cb, .slice N (mkV s n).2.1.length cn, .slice L (mkV s n).2.2.length cl], .int .i64 (mkN s n), .int .i64 (mkE s n)]) ∧
      Sto (New w.heap.size W') W' (.agg #[.slice A (mkV s n).1.1.length ca, .slice B (mkV s n).1.2.length cb, .slice N (mkV s n).2.1.length cn, .slice L (mkV s n).2.2.length cl]) (mkV s n) ∧ Below w.heap.size w W' := by
  refine (makeV_any v u s n w h hu).mono ?_
  rintro e W' ⟨t, rfl, ht, hb⟩
  obtain ⟨A, ca, B, cb, N, cn, L, cl, rfl, _⟩ := id ht.open
  exact ⟨A, ca, B, cb, N, cn, L, cl, rfl, ht, hb⟩
end Go.Proofs.Ytncnoingbaeomaa

/-
  The laws of layer 10: key, made, alive. Conditions: those that each lemma states.
-/
namespace Go.Proofs.Ytncnoingbaeomaa
open Go.RowKit

set_option maxRecDepth 100000 in
theorem keyF_any (x : Int) (w : World) : Calls Try.prog 12 #[.int .u32 x] w fun e w' => e = .returned (.agg #[.int .u8 2, .int .u32 0, .int .u32 x]) ∧ Below w.heap.size w w' := by
  obtain ⟨w1, hw1, f1, f2, f3, hs1, hB1, _⟩ := box_three w (.int .u8 2) (.int .u32 0) (.int .u32 x) 37
  go_enter Try.func12, Try.ntmps12
  go_wp2_with fail
  exact bodyPost_ret (v := .agg #[.int .u8 2, .int .u32 0, .int .u32 x]) (by simp [results, Try.results12, go_sem, f1, f2, f3]) rfl ⟨rfl, hB1⟩

theorem low_lies {w : World} {g h : Nat} (hz : w.heap[h]? = some (.cells #[.int .u8 2, .int .u32 0, .int .u32 2, .int .i64 0, .slice none 0 0, .int .u8 2, .int .u32 0, .int .u32 4, .int .i64 0, .slice (some ⟨g, 0, none⟩) 1 1] 39 (0, 0))) (hb : rBy (Old w) w [.slice (some ⟨g, 0, none⟩) 1 1] [7]) :
    Nod (Old w) w (.agg #[.int .i64 0, .slice (some ⟨h, 0, none⟩) 2 2]) lowN := by
  have := its_lies (ps := [(it2, .slice none 0 0), (it4, .slice (some ⟨g, 0, none⟩) 1 1)]) hz rfl (by simp) (fun p hp => by
    simp only [List.mem_cons, List.not_mem_nil, or_false] at hp
    rcases hp with rfl | rfl
    · exact ⟨low_in.2 it2 (by simp [lowN]), ⟨none, 0, rfl, by simp [it2], by omega, fun i x h => by simp [it2] at h⟩⟩
    · exact ⟨low_in.2 it4 (by simp [lowN]), hb⟩)
  exact ⟨_, rfl, low_in.1, this⟩
theorem top_lies {w : World} {h : Nat} {x : Int} (hx : 0 ≤ x ∧ x < 4294967296) (hz : w.heap[h]? = some (.cells #[.int .u8 2, .int .u32 0, .int .u32 x, .int .i64 8, .slice none 0 0] 39 (0, 0))) :
    Nod (Old w) w (.agg #[.int .i64 1, .slice (some ⟨h, 0, none⟩) 1 1]) (topN x) := by
  have := its_lies (ps := [((keyN x, 8, []), .slice none 0 0)]) hz rfl (by simp) (fun p hp => by
    simp only [List.mem_cons, List.not_mem_nil, or_false] at hp
    subst hp
    exact ⟨(top_in hx).2 _ (by simp [topN]), ⟨none, 0, rfl, by simp, by omega, fun i x h => by simp at h⟩⟩)
  exact ⟨_, rfl, (top_in hx).1, this⟩

set_option maxRecDepth 100000 in
set_option maxHeartbeats 8000000 in
theorem made_any (x : Int) (hx : 0 ≤ x ∧ x < 4294967296) (w : World) :
    Calls Try.prog 9 #[.int .u32 x] w fun e w' => ∃ A ca B cb N cn L cl, e = .returned (.tuple #[.agg #[.slice A (tr2 x).1.1.length ca, .slice B (tr2 x).1.2.length cb, .slice N (tr2 x).2.1.length cn, .slice L (tr2 x).2.2.length cl], .bool true]) ∧
      Sto (Old w') w' (.agg #[.slice A (tr2 x).1.1.length ca, .slice B (tr2 x).1.2.length cb, .slice N (tr2 x).2.1.length cn, .slice L (tr2 x).2.2.length cl]) (tr2 x) ∧ Below w.heap.size w w' := by
  obtain ⟨hE1, hN1, _⟩ := low_made
  obtain ⟨hE2, hN2, hm2, _⟩ := top_made hx
  obtain ⟨T, hT⟩ : ∃ T, tr1 = T := ⟨_, rfl⟩
  obtain ⟨V, hV⟩ : ∃ V, tr2 x = V := ⟨_, rfl⟩
  have hT1 : Hid (mkV newR lowN = T) := Lib.hid hT
  have hV1 : Hid (mkV T (topN x) = V) := Lib.hid (by rw [← hT]; exact hV)
  rw [hT] at hE2 hN2
  rw [hV] at hm2 ⊢
  have hfull := Lib.hid (full_rm hm2)
  replace hE1 := Lib.hid hE1
  replace hN1 := Lib.hid hN1
  replace hE2 := Lib.hid hE2
  replace hN2 := Lib.hid hN2
  replace hT := Lib.hid hT
  replace hV := Lib.hid hV
  clear hm2
  obtain ⟨w1, hw1, f1, hsz, hB⟩ := box_4 w (.slice none 0 0) (.slice none 0 0) (.slice none 0 0) (.slice none 0 0) 29
  have B1 := Lib.hid hB
  have F1 := Lib.hid f1
  replace hsz := Lib.hid hsz
  clear hB f1
  go_enter Try.func9, Try.ntmps9
  go_upto_region 1 with fail
  clear hw1
  go_wp2_with fail
  with_reducible refine (newR_any _).mono ?_
  rintro e w2 ⟨t, rfl, ht, hb2⟩
  have T2 := Lib.hid ht.drop
  have B2 := Lib.hid (B1.out.trans (hb2.mono B1.out.size))
  have s2 := Lib.hid hb2
  clear ht hb2
  go_wp2_with fail
  with_reducible refine (keyF_any 2 _).mono ?_
  rintro e w3 ⟨rfl, hb3⟩
  have T3 := Lib.hid (T2.out.below hb3)
  have B3 := Lib.hid (B2.out.trans (hb3.mono B2.out.size))
  have s3 := Lib.hid (s2.out.trans (hb3.mono s2.out.size))
  clear hb3 B2 T2 s2
  go_wp2_with fail
  with_reducible refine (keyF_any 4 _).mono ?_
  rintro e w4 ⟨rfl, hb4⟩
  have T4 := Lib.hid (T3.out.below hb4)
  have B4 := Lib.hid (B3.out.trans (hb4.mono B3.out.size))
  have s4 := Lib.hid (s3.out.trans (hb4.mono s3.out.size))
  clear hb4 B3 T3 s3
  obtain ⟨wA, hwA, hby, hsA, hA1⟩ : ∃ wA, w4.alloc (.cells #[.int .u8 7] 5) = wA ∧ rBy (Old wA) wA [.slice (some ⟨w4.heap.size, 0, none⟩) 1 1] [7] ∧ wA.heap.size = w4.heap.size + 1 ∧ Below w4.heap.size w4 wA := ⟨_, rfl, byte_lit w4 5 7 7 rfl, by simp, (Below.refl _ _).alloc (Nat.le_refl _) _⟩
  obtain ⟨wB, hwB, hB0, hB1⟩ : ∃ wB, wA.alloc (.cells #[.int .u8 2, .int .u32 0, .int .u32 2, .int .i64 0, .slice none 0 0, .int .u8 2, .int .u32 0, .int .u32 4, .int .i64 0, .slice (some ⟨w4.heap.size, 0, none⟩) 1 1] 39) = wB ∧ wB.heap[wA.heap.size]? = some (.cells #[.int .u8 2, .int .u32 0, .int .u32 2, .int .i64 0, .slice none 0 0, .int .u8 2, .int .u32 0, .int .u32 4, .int .i64 0, .slice (some ⟨w4.heap.size, 0, none⟩) 1 1] 39 (0, 0)) ∧ Below wA.heap.size wA wB := ⟨_, rfl, heap_alloc_new _ _, (Below.refl _ _).alloc (Nat.le_refl _) _⟩
  have NB := low_lies hB0 (stab_by.old hby hB1)
  rw [hsA] at NB
  replace NB := Lib.hid NB
  have hAB := hA1.trans (hB1.mono hA1.size)
  have TB := Lib.hid (T4.out.below hAB)
  have BB := Lib.hid (B4.out.trans (hAB.mono B4.out.size))
  have sB := Lib.hid (s4.out.trans (hAB.mono s4.out.size))
  clear hB0 hB1 hby hA1 hAB B4 T4 s4
  go_wp2_with fail
  clear hwA hwB hsA
  with_reducible refine (makeV_open _ _ newR lowN _ TB.out NB.out).mono ?_
  rintro e w5 ⟨E, ea, G, eg, M, em, K, ek, rfl, h5, hb5⟩
  rw [hT1.out] at h5 ⊢
  rw [hN1.out, hE1.out]
  obtain ⟨w6, hw6, hg6, hB6, -, hs6⟩ := bag_four ((Bag.nil w5).add (F := OldR _ T) h5.drop (lasts_oldR _ _)) (Below.refl _ _) (.slice E T.1.1.length ea) (.slice G T.1.2.length eg) (.slice M T.2.1.length em) (.slice K T.2.2.length ek) 29
  have H6 := Lib.hid hg6
  have b56 := hb5.trans (hB6.mono hb5.size)
  have B6 := Lib.hid (BB.out.trans (b56.mono BB.out.size))
  have S6 := Lib.hid (sB.out.trans (b56.mono sB.out.size))
  replace hs6 := Lib.hid hs6
  clear hg6 hB6 hb5 h5 BB TB NB sB b56
  go_upto_region 2 with fail
  clear hw6
  have hMk : Hid (∀ u v W, Sto (Old W) W u T → Nod (Old W) W v (topN x) → Calls Try.prog 24 #[u, v] W fun e W' => ∃ A ca B cb N cn L cl, e = .returned (.tuple #[.agg #[.slice A V.1.1.length ca, .slice B V.1.2.length cb, .slice N V.2.1.length cn, .slice L V.2.2.length cl], .int .i64 9, .int .i64 0]) ∧ Sto (New W.heap.size W') W' (.agg #[.slice A V.1.1.length ca, .slice B V.1.2.length cb, .slice N V.2.1.length cn, .slice L V.2.2.length cl]) V ∧ Below W.heap.size W W') := Lib.hid fun u v W h1 h2 => by
    have := makeV_open u v T (topN x) W h1 h2
    rw [hV1.out, hN2.out, hE2.out] at this
    exact this
  refine wp_region_late (ops' := ?opsLate) (by kernel_rfl) [(13, 10), (13, 11), (14, 11)] ?he (by kernel_rfl) (fun d _ _ _ _ h => by cases d <;> exact h) 13 (fun W => Below w6.heap.size w6 W) (fun i => match i with
      | 5 => some (fun v W => ∃ h, v = .slice (some ⟨h, 0, none⟩) 1 1 ∧ W.heap[h]? = some (.cells #[.int .u8 2, .int .u32 0, .int .u32 x, .int .i64 8, .slice none 0 0] 39 (0, 0)))
      | 6 => some (fun v W => Nod (Old W) W v (topN x))
      | 7 => some (fun v W => ∃ A ca B cb N cn L cl, v = .tuple #[.agg #[.slice A V.1.1.length ca, .slice B V.1.2.length cb, .slice N V.2.1.length cn, .slice L V.2.2.length cl], .int .i64 9, .int .i64 0] ∧ Sto (Old W) W (.agg #[.slice A V.1.1.length ca, .slice B V.1.2.length cb, .slice N V.2.1.length cn, .slice L V.2.2.length cl]) V)
      | 8 => some (fun v W => ∃ A ca B cb N cn L cl, v = .tuple #[.agg #[.slice A V.1.1.length ca, .slice B V.1.2.length cb, .slice N V.2.1.length cn, .slice L V.2.2.length cl], .int .i64 9, .int .i64 0] ∧ Sto (Old W) W (.agg #[.slice A V.1.1.length ca, .slice B V.1.2.length cb, .slice N V.2.1.length cn, .slice L V.2.2.length cl]) V)
      | 9 => some (fun v W => ∃ A ca B cb N cn L cl, v = .agg #[.slice A V.1.1.length ca, .slice B V.1.2.length cb, .slice N V.2.1.length cn, .slice L V.2.2.length cl] ∧ Sto (Old W) W (.agg #[.slice A V.1.1.length ca, .slice B V.1.2.length cb, .slice N V.2.1.length cn, .slice L V.2.2.length cl]) V)
      | 12 => some (fun v W => ∃ g, v = .pointer (some ⟨g, 0, none⟩) ∧ w6.heap.size ≤ g ∧ W.heap[g]? = some (.cells #[.slice none 0 0, .slice none 0 0, .slice none 0 0, .slice none 0 0] 29 (0, 0)))
      | _ => none) (fun i => match i with
      | 2 => some (.agg #[.int .u8 2, .int .u32 0, .int .u32 x])
      | 10 => some (.int .i64 9)
      | 11 => some (.int .i64 0)
      | _ => none) ?h1 ?h2 ?h3 (Below.refl _ _).drew (fun w w' h hb => h.trans (hb.mono h.size)) ?tst ?_
  case he =>
    simp [withEdges]
    rfl
  case h1 => decide
  case h2 => kernel_rfl
  case h3 => kernel_rfl
  case tst =>
    intro j φ x W W' hp hx hb
    match j, hp with
    | 5, hp => cases hp; obtain ⟨g, e, h2⟩ := hx; exact ⟨g, e, (hb.block g (Array.getElem?_eq_some_iff.1 h2).1).trans h2⟩
    | 6, hp => cases hp; exact hx.below hb
    | 7, hp => cases hp; obtain ⟨A, ca, B, cb, N, cn, L, cl, e, h⟩ := hx; exact ⟨A, ca, B, cb, N, cn, L, cl, e, h.below hb⟩
    | 8, hp => cases hp; obtain ⟨A, ca, B, cb, N, cn, L, cl, e, h⟩ := hx; exact ⟨A, ca, B, cb, N, cn, L, cl, e, h.below hb⟩
    | 9, hp => cases hp; obtain ⟨A, ca, B, cb, N, cn, L, cl, e, h⟩ := hx; exact ⟨A, ca, B, cb, N, cn, L, cl, e, h.below hb⟩
    | 12, hp => cases hp; obtain ⟨g, e, h1, h2⟩ := hx; exact ⟨g, e, h1, (hb.block g (Array.getElem?_eq_some_iff.1 h2).1).trans h2⟩
  simp only [List.take_succ_cons, List.take_zero, List.drop_succ_cons, List.drop_zero]
  repeat (first
    | (refine wpAs_skip rfl ?_; simp only [Act.put, List.setIfInBounds_toArray, List.set_cons_zero, List.set_cons_succ])
    | (refine wpAs_pure (v := ?_) rfl rfl ?_ ?_; rotate_left; (intro W hC hE; clear hE; (obtain ⟨j0, j1, j2, j3, jg⟩ := (H6.out.below hC).at 0 rfl); clear hC; go_simp; done); simp only [Act.put, List.setIfInBounds_toArray, List.set_cons_zero, List.set_cons_succ])
    | (refine wpAs_pure (v := ?_) rfl rfl ?_ ?_; rotate_left; (intro W hC hE; clear hE; (obtain ⟨j0, j1, j2, j3, jg⟩ := (H6.out.below hC).at 0 rfl); clear hC; go_simp; with_reducible rfl); simp only [Act.put, List.setIfInBounds_toArray, List.set_cons_zero, List.set_cons_succ]))
  refine wpAs_fixed rfl rfl rfl ?_ ?_
  · intro W hC hE
    refine does_enter (f := 12) (args := #[.int .u32 x]) ?_ ?_
    · go_simp
    · refine (keyF_any x W).mono ?_
      (rintro e W' ⟨rfl, hg⟩)
      exact ⟨_, rfl, rfl, hg⟩
  simp only [Act.put, List.setIfInBounds_toArray, List.set_cons_zero, List.set_cons_succ]
  repeat (first
    | (refine wpAs_skip rfl ?_; simp only [Act.put, List.setIfInBounds_toArray, List.set_cons_zero, List.set_cons_succ])
    | (refine wpAs_pure (v := ?_) rfl rfl ?_ ?_; rotate_left; (intro W hC hE; clear hE; skip; clear hC; go_simp; done); simp only [Act.put, List.setIfInBounds_toArray, List.set_cons_zero, List.set_cons_succ])
    | (refine wpAs_pure (v := ?_) rfl rfl ?_ ?_; rotate_left; (intro W hC hE; clear hE; skip; clear hC; go_simp; with_reducible rfl); simp only [Act.put, List.setIfInBounds_toArray, List.set_cons_zero, List.set_cons_succ]))
  refine wpAs_act rfl rfl ?_ ?_
  · intro W hC hE
    clear hE hC
    have hn := heap_alloc_new W (.cells #[.int .u8 2, .int .u32 0, .int .u32 x, .int .i64 8, .slice none 0 0] 39)
    have hb := (Below.refl W.heap.size W).alloc (Nat.le_refl _) (.cells #[.int .u8 2, .int .u32 0, .int .u32 x, .int .i64 8, .slice none 0 0] 39)
    replace hn := Lib.hid hn
    replace hb := Lib.hid hb
    go_simp
    exact ⟨⟨_, rfl, hn.out⟩, hb.out⟩
  simp only [Act.put, List.setIfInBounds_toArray, List.set_cons_zero, List.set_cons_succ, envAdd]
  intro x5
  refine wpAs_act rfl rfl ?_ ?_
  · intro W hC hE
    obtain ⟨h, rfl, h5⟩ := hE.1 rfl
    have h5' := Lib.hid (top_lies hx h5)
    clear hE hC h5
    go_simp
    exact ⟨h5'.out, Below.refl _ _⟩
  simp only [Act.put, List.setIfInBounds_toArray, List.set_cons_zero, List.set_cons_succ, envAdd]
  intro x6
  refine wpAs_act rfl rfl ?_ ?_
  · intro W hC hE
    have h6 := hE.1 rfl
    clear hE
    refine does_enter (f := 24) (args := #[.agg #[.slice E T.1.1.length ea, .slice G T.1.2.length eg, .slice M T.2.1.length em, .slice K T.2.2.length ek], x6]) ?_ ?_
    · go_simp
    · refine (hMk.out _ x6 W ((H6.out.below hC).at 1 rfl) h6).mono ?_
      rintro e W' ⟨A, ca, B, cb, N, cn, L, cl, rfl, hz, hb⟩
      exact ⟨_, rfl, ⟨A, ca, B, cb, N, cn, L, cl, rfl, hz.drop⟩, hb⟩
  simp only [Act.put, List.setIfInBounds_toArray, List.set_cons_zero, List.set_cons_succ, envAdd]
  intro x7
  refine wpAs_act rfl rfl ?_ ?_
  · intro W hC hE
    have h7 := hE.1 rfl
    clear hE hC
    go_simp
    exact ⟨h7, Below.refl _ _⟩
  simp only [Act.put, List.setIfInBounds_toArray, List.set_cons_zero, List.set_cons_succ, envAdd]
  intro x8
  refine wpAs_act rfl rfl ?_ ?_
  · intro W hC hE
    obtain ⟨A, ca, B, cb, N, cn, L, cl, rfl, hz⟩ := hE.1 rfl
    have hz' := Lib.hid hz
    clear hE hz hC
    go_simp
    exact ⟨⟨A, ca, B, cb, N, cn, L, cl, rfl, hz'.out⟩, Below.refl _ _⟩
  simp only [Act.put, List.setIfInBounds_toArray, List.set_cons_zero, List.set_cons_succ, envAdd]
  intro x9
  refine wpAs_fixed rfl rfl rfl ?_ ?_
  · intro W hC hE
    obtain ⟨A, ca, B, cb, N, cn, L, cl, rfl, hz⟩ := hE.2.1 rfl
    clear hE hz hC
    go_simp
    exact ⟨rfl, Below.refl _ _⟩
  simp only [Act.put, List.setIfInBounds_toArray, List.set_cons_zero, List.set_cons_succ]
  refine wpAs_fixed rfl rfl rfl ?_ ?_
  · intro W hC hE
    obtain ⟨A, ca, B, cb, N, cn, L, cl, rfl, hz⟩ := hE.2.1 rfl
    clear hE hz hC
    go_simp
    exact ⟨rfl, Below.refl _ _⟩
  simp only [Act.put, List.setIfInBounds_toArray, List.set_cons_zero, List.set_cons_succ]
  refine wpAs_act rfl rfl ?_ ?_
  · intro W hC hE
    have hs := hC.size
    clear hE hC
    go_simp
    exact ⟨⟨W.heap.size, rfl, hs, heap_alloc_new _ _⟩, (Below.refl _ _).alloc (Nat.le_refl _) _⟩
  simp only [Act.put, List.setIfInBounds_toArray, List.set_cons_zero, List.set_cons_succ, envAdd]
  intro x12
  refine wpAs_end fun W hC hE => ?_
  obtain ⟨⟨g, rfl, hg, hz⟩, ⟨A, ca, B, cb, N, cn, L, cl, rfl, hs⟩, _⟩ := hE
  obtain ⟨c0, c1, c2, c3, c4, c5⟩ := four_cells hz
  obtain ⟨W9, hW9, g9, gr9, gs9⟩ := put_four (a' := .slice A V.1.1.length ca) (b' := .slice B V.1.2.length cb) (c' := .slice N V.2.1.length cn) (d' := .slice L V.2.2.length cl) hz
  have hs9 := Lib.hid (sto_put_zero hs hfull.out hz (by simp) gr9)
  have hb9 := hC.grown gr9 hC.size (fun q e => by cases e; exact hg)
  have B9 := Lib.hid (B6.out.trans (hb9.mono B6.out.size))
  have F9 := Lib.hid ((((S6.out.trans (hb9.mono S6.out.size)).block w.heap.size (by rw [hsz.out]; omega)).trans F1.out))
  have g9h := Lib.hid g9
  replace hz := Lib.hid hz
  replace g9 := Lib.hid g9
  clear hs hC gr9 gs9 hb9 B6
  go_upto_region 3 with fail
  clear hW9 c0 c1 c2 c3 c4 c5
  obtain ⟨w11, rfl⟩ : ∃ w11 : World, w11 = W9 := ⟨_, rfl⟩
  obtain ⟨n0, n1, n2, n3, _, n5⟩ := four_cells g9h.out
  obtain ⟨o0, o1, o2, o3, o4, _⟩ := four_cells F9.out
  obtain ⟨WR, hWR, gR, grR, gsR⟩ := put_four (a' := .slice A V.1.1.length ca) (b' := .slice B V.1.2.length cb) (c' := .slice N V.2.1.length cn) (d' := .slice L V.2.2.length cl) F9.out
  obtain ⟨p0, p1, p2, p3, _, _⟩ := four_cells gR
  have hsR := Lib.hid (sto_put_zero hs9.out hfull.out F9.out (by simp) grR)
  have BR := Lib.hid (B9.out.grown grR B9.out.size (fun q e => by cases e; omega))
  replace gR := Lib.hid gR
  clear grR gsR
  go_wp2_with fail
  refine bodyPost_ret (v := .tuple #[.agg #[.slice A V.1.1.length ca, .slice B V.1.2.length cb, .slice N V.2.1.length cn, .slice L V.2.2.length cl], .bool true]) (by simp [results, Try.results9, go_sem, p0, p1, p2, p3]) rfl ?_
  exact ⟨A, ca, B, cb, N, cn, L, cl, rfl, hsR.out, BR.out⟩
end Go.Proofs.Ytncnoingbaeomaa

/-
  The laws of layer 10: what the chapter's tree tells; alive. Conditions: those that each lemma states.
-/
namespace Go.Proofs.Ytncnoingbaeomaa
open Go.RowKit

theorem findCheck_lit (v : Value) (s : Rm) (a : Int) (w : World) (h : Sto (Old w) w v s) (H E : Int) (hh : ckH s a = H ∧ ckE s a = E) :
    Calls Try.prog 10 #[v, .int .i64 a] w fun e w' => e = .returned (.tuple #[.int .i64 H, .int .i64 E]) ∧ Below w.heap.size w w' := by
  rw [← hh.1, ← hh.2]
  exact findCheck_any v s a w h
theorem findFind_lit (v : Value) (s : Rm) (a : Int) (x : Int) (w : World) (h : Sto (Old w) w v s) :
    Calls Try.prog 11 #[v, .int .i64 a, .agg #[.int .u8 2, .int .u32 0, .int .u32 x]] w fun e w' => ∃ u, e = .returned (.tuple #[u, .int .i64 (fdE s a (keyN x))]) ∧ Itm (New w.heap.size w') w' u (fdV s a (keyN x)) ∧ Below w.heap.size w w' := findFind_any v s a (keyN x) w h
theorem tree_tells : (ckH (tr2 2) 9 = 2 ∧ ckE (tr2 2) 9 = 0) ∧ (ckH (tr2 2) 8 = 1 ∧ ckE (tr2 2) 8 = 0) ∧ (ckH (tr2 2) 10 = 0 ∧ ckE (tr2 2) 10 = 6) ∧ (ckH (tr2 2) 7 = 0 ∧ ckE (tr2 2) 7 = 2) ∧ (ckH (tr2 1) 9 = 0 ∧ ckE (tr2 1) 9 = 8) ∧
    (fdE (tr2 2) 9 (keyN 4) = 0 ∧ fdV (tr2 2) 9 (keyN 4) = it4) ∧ (fdE (tr2 2) 9 (keyN 3) = 6 ∧ fdV (tr2 2) 9 (keyN 3) = zeroI) := by
  obtain ⟨_, _, _, r1, r2, r3, r4, r5, r6⟩ := top_made (x := 2) (by decide)
  obtain ⟨_, _, _, q1, q2, _, _, _, _⟩ := top_made (x := 1) (by decide)
  obtain ⟨t1, t2, t3, t4, t5⟩ := top_tree
  obtain ⟨c1, c2⟩ := ck_ok (tree_of t1).2.1 t1
  obtain ⟨d1, d2⟩ := ck_ok (tree_of t2).2.1 t2
  obtain ⟨e1, e2⟩ := ck_no (s := tr2 2) (a := 10) (by rw [r5]; decide)
  obtain ⟨f1, f2⟩ := ck_no (s := tr2 2) (a := 7) (by rw [r6]; decide)
  obtain ⟨g1, g2⟩ := ck_bad (rm_may q1).2 t3
  refine ⟨⟨by rw [c2, r2]; rfl, c1⟩, ⟨by rw [d2, r4]; rfl, d1⟩, ⟨e2, e1.trans r5⟩, ⟨f2, f1.trans r6⟩, ⟨g2, g1⟩, fd_some c1 t4, fd_none c1 t5⟩

theorem by_seven {W W9 : World} {g c : Nat} {E : Option Addr} {t : TypeId} (h : rBy (Old W) W [.slice E 1 c] [7]) (hz : W.heap[g]? = some (.cells #[.int .u8 0, .int .u32 0, .int .u32 0, .int .i64 0, .slice none 0 0] t (0, 0))) (hg : W.grownBy W9 (some g)) : rBy (Old W9) W9 [.slice E 1 c] [7] := by
  obtain ⟨A, cap, e, h1, h2, hA⟩ := rBy_open h
  cases e
  obtain ⟨ad, rfl, hold, hc⟩ := hA 0 (by decide)
  have hne : (ad.add 0).block ≠ g := fun e => by
    unfold World.cell? at hc
    rw [e, hz] at hc
    dsimp only at hc
    split at hc
    · cases hc
    · obtain ⟨hlt, hu⟩ := Array.getElem?_eq_some_iff.1 hc
      have : ∀ v ∈ #[Value.int .u8 0, .int .u32 0, .int .u32 0, .int .i64 0, .slice none 0 0], v ≠ .int .u8 7 := by simp
      exact this _ (Array.getElem_mem hlt) hu
  have hc9 : W9.cell? (ad.add 0) = some (.int .u8 7) := (World.cell?_of_block (hg.block _ hold (fun e => hne (Option.some.inj e)))).trans hc
  refine ⟨some ad, c, rfl, h1, h2, fun i x hi => ?_⟩
  have hi0 : i = 0 := by
    have := (List.getElem?_eq_some_iff.1 hi).1
    simp at this
    omega
  subst hi0
  cases hi
  refine ⟨ad, [.int .u8 7], rfl, rfl, fun j v hj => ?_, rfl⟩
  have hj0 : j = 0 := by
    have := (List.getElem?_eq_some_iff.1 hj).1
    simp at this
    omega
  subst hj0
  cases hj
  exact ⟨Nat.lt_of_lt_of_le hold hg.size, hc9⟩

set_option maxRecDepth 100000 in
set_option maxHeartbeats 8000000 in
theorem alive10 (w : World) : Calls Try.prog 8 #[] w fun e w' => e = .returned (.bool true) ∧ Below w.heap.size w w' := by
  obtain ⟨_, _, _, _, _, ⟨hE, hV⟩, _⟩ := tree_tells
  have hMd := Lib.hid (fun W => made_any 2 (by decide) W)
  have hFd := Lib.hid (fun v W hW => findFind_lit v (tr2 2) 9 4 W hW)
  rw [hE, hV] at hFd
  obtain ⟨T, hT⟩ : ∃ T, tr2 2 = T := ⟨_, rfl⟩
  rw [hT] at hMd hFd
  have hke : ∀ w, (Op.equalIn 10000 37 (.agg #[.int .u8 2, .int .u32 0, .int .u32 4]) (.agg #[.int .u8 2, .int .u32 0, .int .u32 4])).run Try.prog w = .ok true w := fun w => by
    have := key_eq (keyN 4) (keyN 4) w
    rw [decide_eq_true rfl] at this
    exact this
  have hkg := key_guard
  replace hT := Lib.hid hT
  clear hE hV
  go_enter Try.func8, Try.ntmps8
  go_wp2_with fail
  with_reducible refine (hMd.out _).mono ?_
  rintro e w1 ⟨A, ca, B, cb, N, cn, L, cl, rfl, h1, hb1⟩
  obtain ⟨w2, hw2, hg2, hB2, -, hs2⟩ := bag_four ((Bag.nil w1).add (F := OldR _ T) h1 (lasts_oldR _ _)) (Below.refl _ _) (.slice A T.1.1.length ca) (.slice B T.1.2.length cb) (.slice N T.2.1.length cn) (.slice L T.2.2.length cl) 29
  have H2 := Lib.hid hg2
  have B2 := Lib.hid (hb1.trans (hB2.mono hb1.size))
  replace hs2 := Lib.hid hs2
  clear hg2 hB2 hb1 h1 hMd
  go_upto_region 2 with fail
  clear hw2
  refine wp_region_late (ops' := ?opsLate) (by kernel_rfl) [(7, 5)] ?he (by kernel_rfl) (fun d _ _ _ _ h => by cases d <;> exact h) 7 (fun W => Below w2.heap.size w2 W) (fun i => match i with
      | 2 => some (fun v W => ∃ E ce, v = .tuple #[.agg #[.int .u8 2, .int .u32 0, .int .u32 4, .int .i64 0, .slice E 1 ce], .int .i64 0] ∧ rBy (Old W) W [.slice E 1 ce] [7])
      | 3 => some (fun v W => ∃ E ce, v = .tuple #[.agg #[.int .u8 2, .int .u32 0, .int .u32 4, .int .i64 0, .slice E 1 ce], .int .i64 0] ∧ rBy (Old W) W [.slice E 1 ce] [7])
      | 4 => some (fun v W => ∃ E ce, v = .agg #[.int .u8 2, .int .u32 0, .int .u32 4, .int .i64 0, .slice E 1 ce] ∧ rBy (Old W) W [.slice E 1 ce] [7])
      | 6 => some (fun v W => ∃ g, v = .pointer (some ⟨g, 0, none⟩) ∧ w2.heap.size ≤ g ∧ W.heap[g]? = some (.cells #[.int .u8 0, .int .u32 0, .int .u32 0, .int .i64 0, .slice none 0 0] 39 (0, 0)))
      | _ => none) (fun i => match i with
      | 1 => some (.agg #[.int .u8 2, .int .u32 0, .int .u32 4])
      | 5 => some (.int .i64 0)
      | _ => none) ?h1 ?h2 ?h3 (Below.refl _ _).drew (fun w w' h hb => h.trans (hb.mono h.size)) ?tst ?_
  case he =>
    simp [withEdges]
    rfl
  case h1 => decide
  case h2 => kernel_rfl
  case h3 => kernel_rfl
  case tst =>
    intro j φ x W W' hp hx hb
    match j, hp with
    | 2, hp => cases hp; obtain ⟨E, ce, e, h⟩ := hx; exact ⟨E, ce, e, stab_by.old h hb⟩
    | 3, hp => cases hp; obtain ⟨E, ce, e, h⟩ := hx; exact ⟨E, ce, e, stab_by.old h hb⟩
    | 4, hp => cases hp; obtain ⟨E, ce, e, h⟩ := hx; exact ⟨E, ce, e, stab_by.old h hb⟩
    | 6, hp => cases hp; obtain ⟨g, e, h1, h2⟩ := hx; exact ⟨g, e, h1, (hb.block g (Array.getElem?_eq_some_iff.1 h2).1).trans h2⟩
  simp only [List.take_succ_cons, List.take_zero, List.drop_succ_cons, List.drop_zero]
  repeat (first
    | (refine wpAs_skip rfl ?_; simp only [Act.put, List.setIfInBounds_toArray, List.set_cons_zero, List.set_cons_succ])
    | (refine wpAs_pure (v := ?_) rfl rfl ?_ ?_; rotate_left; (intro W hC hE; clear hE; (obtain ⟨k0, k1, k2, k3, _⟩ := (H2.out.below hC).at 0 rfl); clear hC; go_simp; done); simp only [Act.put, List.setIfInBounds_toArray, List.set_cons_zero, List.set_cons_succ])
    | (refine wpAs_pure (v := ?_) rfl rfl ?_ ?_; rotate_left; (intro W hC hE; clear hE; (obtain ⟨k0, k1, k2, k3, _⟩ := (H2.out.below hC).at 0 rfl); clear hC; go_simp; with_reducible rfl); simp only [Act.put, List.setIfInBounds_toArray, List.set_cons_zero, List.set_cons_succ]))
  refine wpAs_fixed rfl rfl rfl ?_ ?_
  · intro W hC hE
    refine does_enter (f := 12) (args := #[.int .u32 4]) ?_ ?_
    · go_simp
    · refine (keyF_any 4 W).mono ?_
      (rintro e W' ⟨rfl, hg⟩)
      exact ⟨_, rfl, rfl, hg⟩
  simp only [Act.put, List.setIfInBounds_toArray, List.set_cons_zero, List.set_cons_succ]
  refine wpAs_act rfl rfl ?_ ?_
  · intro W hC hE
    clear hE
    refine does_enter (f := 11) (args := #[.agg #[.slice A T.1.1.length ca, .slice B T.1.2.length cb, .slice N T.2.1.length cn, .slice L T.2.2.length cl], .int .i64 9, .agg #[.int .u8 2, .int .u32 0, .int .u32 4]]) ?_ ?_
    · go_simp
    · refine (hFd.out _ W ((H2.out.below hC).at 1 rfl)).mono ?_
      rintro e W' ⟨u, rfl, hu, hb⟩
      obtain ⟨E, ce, rfl, _, _, _, hby⟩ := hu.drop.open
      exact ⟨_, rfl, ⟨E, ce, rfl, hby⟩, hb⟩
  simp only [Act.put, List.setIfInBounds_toArray, List.set_cons_zero, List.set_cons_succ, envAdd]
  intro x2
  refine wpAs_act rfl rfl ?_ ?_
  · intro W hC hE
    have h7 := hE.1 rfl
    clear hE hC
    go_simp
    exact ⟨h7, Below.refl _ _⟩
  simp only [Act.put, List.setIfInBounds_toArray, List.set_cons_zero, List.set_cons_succ, envAdd]
  intro x3
  refine wpAs_act rfl rfl ?_ ?_
  · intro W hC hE
    obtain ⟨E, ce, rfl, hz⟩ := hE.1 rfl
    have hz' := Lib.hid hz
    clear hE hz hC
    go_simp
    exact ⟨⟨E, ce, rfl, hz'.out⟩, Below.refl _ _⟩
  simp only [Act.put, List.setIfInBounds_toArray, List.set_cons_zero, List.set_cons_succ, envAdd]
  intro x4
  refine wpAs_fixed rfl rfl rfl ?_ ?_
  · intro W hC hE
    obtain ⟨E, ce, rfl, hz⟩ := hE.2.1 rfl
    clear hE hz hC
    go_simp
    exact ⟨rfl, Below.refl _ _⟩
  simp only [Act.put, List.setIfInBounds_toArray, List.set_cons_zero, List.set_cons_succ]
  refine wpAs_act rfl rfl ?_ ?_
  · intro W hC hE
    have hs := hC.size
    clear hE hC
    go_simp
    exact ⟨⟨W.heap.size, rfl, hs, heap_alloc_new _ _⟩, (Below.refl _ _).alloc (Nat.le_refl _) _⟩
  simp only [Act.put, List.setIfInBounds_toArray, List.set_cons_zero, List.set_cons_succ, envAdd]
  intro x6
  refine wpAs_end fun W hC hE => ?_
  obtain ⟨⟨g, rfl, hg, hz⟩, ⟨E, ce, rfl, hs⟩, _⟩ := hE
  obtain ⟨c0, c1, c2, c3, c4, c5, _⟩ := five_cells hz
  obtain ⟨W9, hW9, g9, gr9, gs9⟩ := put_five (u0 := .int .u8 2) (u1 := .int .u32 0) (u2 := .int .u32 4) (u3 := .int .i64 0) (u4 := .slice E 1 ce) hz
  have hs9 := Lib.hid (by_seven hs hz gr9)
  have hb9 := hC.grown gr9 hC.size (fun q e => by cases e; exact hg)
  have B9 := Lib.hid (B2.out.trans (hb9.mono B2.out.size))
  have g9h := Lib.hid g9
  replace hz := Lib.hid hz
  replace g9 := Lib.hid g9
  clear hs hC gr9 gs9 hb9 B2
  go_upto_region 3 with fail
  clear hW9 c0 c1 c2 c3 c4 c5
  obtain ⟨w11, rfl⟩ : ∃ w11 : World, w11 = W9 := ⟨_, rfl⟩
  refine wp_region_fx (by kernel_rfl) (fun W => Below w11.heap.size w11 W) (fun _ => none) (fun i => match i with
      | 8 => some (.agg #[.int .u8 2, .int .u32 0, .int .u32 4])
      | _ => none) (by kernel_rfl) (Below.refl _ _).drew (fun w w' h hb => h.trans (hb.mono h.size)) (fun j φ x W W' hp => by cases hp) ?_
  repeat (first
    | (refine wpAs_skip rfl ?_; simp only [Act.put, List.setIfInBounds_toArray, List.set_cons_zero, List.set_cons_succ])
    | (refine wpAs_pure (v := ?_) rfl rfl ?_ ?_; rotate_left; (intro W hC hE; clear hE; (have GW := lasts_boxW _ _ _ _ _ g9h.out hC; obtain ⟨n0, n1, n2, n3, n4, _⟩ := five_cells GW; clear GW); clear hC; go_simp; done); simp only [Act.put, List.setIfInBounds_toArray, List.set_cons_zero, List.set_cons_succ])
    | (refine wpAs_pure (v := ?_) rfl rfl ?_ ?_; rotate_left; (intro W hC hE; clear hE; (have GW := lasts_boxW _ _ _ _ _ g9h.out hC; obtain ⟨n0, n1, n2, n3, n4, _⟩ := five_cells GW; clear GW); clear hC; go_simp; with_reducible rfl); simp only [Act.put, List.setIfInBounds_toArray, List.set_cons_zero, List.set_cons_succ]))
  refine wpAs_fixed rfl rfl rfl ?_ ?_
  · intro W hC hE
    refine does_enter (f := 12) (args := #[.int .u32 4]) ?_ ?_
    · go_simp
    · refine (keyF_any 4 W).mono ?_
      (rintro e W' ⟨rfl, hg⟩)
      exact ⟨_, rfl, rfl, hg⟩
  simp only [Act.put, List.setIfInBounds_toArray, List.set_cons_zero, List.set_cons_succ]
  repeat (first
    | (refine wpAs_skip rfl ?_; simp only [Act.put, List.setIfInBounds_toArray, List.set_cons_zero, List.set_cons_succ])
    | (refine wpAs_pure (v := ?_) rfl rfl ?_ ?_; rotate_left; (intro W hC hE; clear hE; (have GW := lasts_boxW _ _ _ _ _ g9h.out hC; obtain ⟨n0, n1, n2, n3, n4, _⟩ := five_cells GW; clear GW); clear hC; go_simp; done); simp only [Act.put, List.setIfInBounds_toArray, List.set_cons_zero, List.set_cons_succ])
    | (refine wpAs_pure (v := ?_) rfl rfl ?_ ?_; rotate_left; (intro W hC hE; clear hE; (have GW := lasts_boxW _ _ _ _ _ g9h.out hC; obtain ⟨n0, n1, n2, n3, n4, _⟩ := five_cells GW; clear GW); clear hC; go_simp; with_reducible rfl); simp only [Act.put, List.setIfInBounds_toArray, List.set_cons_zero, List.set_cons_succ]))
  refine wpAs_pure (v := .string ⟨([7]).toArray⟩) rfl rfl ?_ ?_
  · intro W hC hE
    have h : rBy (Old W) W [.slice E 1 ce] ([7]) := (stab_by.old hs9.out hC)
    have hs := rBy_str0 h
    clear h hC hE
    refine run_convert_op (v := .slice E 1 ce) _ _ _ rfl ?_ hs
    first | rfl | (simp; done) | (go_simp; done)
  simp only [Act.put, List.setIfInBounds_toArray, List.set_cons_zero, List.set_cons_succ]
  repeat (first
    | (refine wpAs_skip rfl ?_; simp only [Act.put, List.setIfInBounds_toArray, List.set_cons_zero, List.set_cons_succ])
    | (refine wpAs_pure (v := ?_) rfl rfl ?_ ?_; rotate_left; (intro W hC hE; clear hE; skip; clear hC; go_simp; done); simp only [Act.put, List.setIfInBounds_toArray, List.set_cons_zero, List.set_cons_succ])
    | (refine wpAs_pure (v := ?_) rfl rfl ?_ ?_; rotate_left; (intro W hC hE; clear hE; skip; clear hC; go_simp; with_reducible rfl); simp only [Act.put, List.setIfInBounds_toArray, List.set_cons_zero, List.set_cons_succ]))
  refine wpAs_end fun W hC hE => ?_
  have BW := Lib.hid (B9.out.trans (hC.mono B9.out.size))
  clear hE hC
  go_wp2_with fail
  go_ret
  exact ⟨rfl, BW.out⟩
end Go.Proofs.Ytncnoingbaeomaa
