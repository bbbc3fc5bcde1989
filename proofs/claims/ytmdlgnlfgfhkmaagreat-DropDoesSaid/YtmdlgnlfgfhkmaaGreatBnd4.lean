/-
  Lemmas on the program and on the document's answers, gathered: RmNode, NdLeaf, NdPlace, NdSame, NdBack, DrPlain, DrStack, RmTwin, DrHold, RmSame, RmRef, NdRefMay, NdRefTold, NdRefSam, NdRefRead, RmRefN, CntSide, CntRead, CntRef, DrLess, NdGreat, Spoil05, NdBag, DrLeft, CntChunk, CntWrite, CntRefW, StoZero. Conditions: those that each lemma states.
-/
import Derived.Test.YtmdlgnlfgfhkmaaGreatBnd3
import Derived.Laws.StructEq
import Derived.WalkLawsBesides
import Derived.Sort.QuietIn
import Derived.Sort.CutIn
/-
  Package room: Node. Conditions: those that each lemma states.
-/
namespace Go.Proofs.YtmdlgnlfgfhkmaaGreat
open Go.RowKit

noncomputable def rmE (s : Rm) (n : Int) : Int := if asE s n = 0 then reN (seenD s.1 n.toNat) else asE s n
noncomputable def rmV (s : Rm) (n : Int) : Nd := if asE s n = 0 then reV (seenD s.1 n.toNat) else zeroN
theorem rm_bad {s : Rm} {n : Int} (h : asE s n ≠ 0) : rmE s n = asE s n ∧ rmV s n = zeroN := ⟨by rw [rmE, if_neg h], by rw [rmV, if_neg h]⟩
theorem as_read {s : Rm} {n : Int} (h : asE s n = 0) : ∃ k : Nat, n = k ∧ mayR s = true ∧ 8 ≤ k ∧ k < 256 ∧ chkAt s.1 n = 0 ∧ rdX s.1 n = seenD s.1 k ∧ rmE s n = reN (seenD s.1 k) ∧ rmV s n = reV (seenD s.1 k) ∧ s.2.1[k]?.getD 0 ≠ 0 := by
  rcases as_ways s n with ⟨_, e⟩ | ⟨_, _, e⟩ | ⟨k, _, _, _, _, _, e⟩ | ⟨k, hm, rfl, h8, h256, hx, e⟩
  · rw [e] at h; cases h
  · rw [e] at h; cases h
  · rw [e] at h; cases h
  · have hmd := (mayR_of hm).1
    have ht := thereB_of h256
    exact ⟨k, rfl, hm, h8, h256, by simp [chkAt, hmd, ht], by simp [rdX, chkAt, hmd, ht], by rw [rmE, if_pos h]; rfl, by rw [rmV, if_pos h]; rfl, hx⟩

set_option maxRecDepth 100000 in
set_option maxHeartbeats 4000000 in
theorem nodeR_any (v : Value) (s : Rm) (n : Int) (w : World) (h : Sto (Old w) w v s) :
    Calls Tryz.prog 80 #[v, .int .i64 n] w fun e w' => ∃ u, e = .returned (.tuple #[u, .int .i64 (rmE s n)]) ∧ Nod (New w.heap.size w') w' u (rmV s n) ∧ Below w.heap.size w w' := by
  obtain ⟨A, ca, B, cb, N, cn, L, cl, rfl, _, _, _⟩ := h.open
  obtain ⟨w1, hw1, f1, f2, hsz, hB⟩ : ∃ w1, (w.alloc (.cells #[.slice A s.1.1.length ca, .slice B s.1.2.length cb, .slice N s.2.1.length cn, .slice L s.2.2.length cl] 28)).alloc (.cells #[.int .i64 0, .slice none 0 0] 31) = w1 ∧
      w1.heap[w.heap.size]? = some (.cells #[.slice A s.1.1.length ca, .slice B s.1.2.length cb, .slice N s.2.1.length cn, .slice L s.2.2.length cl] 28 (0, 0)) ∧ w1.heap[w.heap.size + 1]? = some (.cells #[.int .i64 0, .slice none 0 0] 31 (0, 0)) ∧ w1.heap.size = w.heap.size + 2 ∧ Below w.heap.size w w1 := by
    refine ⟨_, rfl, alloc_block (heap_alloc_new _ _), ?_, by simp, ((Below.refl _ w).alloc (Nat.le_refl _) _).alloc (by simp) _⟩
    have := heap_alloc_new (w.alloc (.cells #[.slice A s.1.1.length ca, .slice B s.1.2.length cb, .slice N s.2.1.length cn, .slice L s.2.2.length cl] 28)) (.cells #[.int .i64 0, .slice none 0 0] 31)
    rwa [World.size_alloc] at this
  have H := Lib.hid (h.below hB)
  clear h
  obtain ⟨k0, k1, k2, k3, _, kg⟩ := four_cells f1
  replace hsz := Lib.hid hsz
  replace f2 := Lib.hid f2
  obtain ⟨q, hq⟩ : ∃ q, rmE s n = q := ⟨_, rfl⟩
  by_cases ha : asE s n = 0
  · obtain ⟨k, rfl, hm, h8, h256, hck, hrd, hE, hV, -⟩ := as_read ha
    obtain ⟨b, hb⟩ : ∃ b, seenD s.1 k = b := ⟨_, rfl⟩
    rw [hb] at hrd hE hV
    rw [hE] at hq
    replace hE : Hid (rmE s (k : Int) = q) := Lib.hid (by rw [hE, hq])
    replace hq := Lib.hid hq
    replace ha := Lib.hid ha
    replace hck := Lib.hid hck
    replace hrd := Lib.hid hrd
    replace hV := Lib.hid hV
    replace hb := Lib.hid hb
    go_enter Tryz.func80, Tryz.ntmps80
    go_upto_region 1 with fail
    clear hw1
    go_wp2_with fail
    with_reducible refine (checkTakenR_any _ s (k : Int) _ H.out).mono ?_
    rintro e w2 ⟨rfl, hb2⟩
    rw [ha.out]
    have G2 := (hb2.block w.heap.size kg).trans f1
    obtain ⟨m0, m1, m2, m3, _, mg⟩ := four_cells G2
    have F2 := Lib.hid ((hb2.block (w.heap.size + 1) (by rw [hsz.out]; omega)).trans f2.out)
    have H2 := Lib.hid (H.out.below hb2)
    have s2 : Hid (w.heap.size + 2 ≤ w2.heap.size) := Lib.hid (by have := hb2.size; have := hsz.out; omega)
    replace hb2 := Lib.hid (hB.trans (hb2.mono hB.size))
    clear k0 k1 k2 k3 kg f1 hB G2
    go_wp2_with fail
    with_reducible refine (read_all _ s.1 (k : Int) _ H2.out.parts.1).mono ?_
    rintro e w3 ⟨u3, rfl, h3, hb3⟩
    rw [hck.out]
    rw [hrd.out] at h3
    obtain ⟨R, rc, rfl, _⟩ := id (rBy_open h3)
    have F3 := Lib.hid ((hb3.block (w.heap.size + 1) (by have := s2.out; omega)).trans F2.out)
    have B3 := Lib.hid (hb2.out.trans (hb3.mono hb2.out.size))
    have s3 : Hid (w.heap.size + 2 ≤ w3.heap.size) := Lib.hid (by have := hb3.size; have := s2.out; omega)
    have H3 := Lib.hid (stab_by.drop h3)
    clear hb3 h3 m0 m1 m2 m3 mg F2
    go_wp2_with fail
    with_reducible refine (nodeRead_any _ b _ H3.out).mono ?_
    rintro e w4 ⟨u4, rfl, h4, hb4⟩
    rw [hq.out]
    obtain ⟨P, pc, rfl, _⟩ := id h4.open
    have F4 := (hb4.block (w.heap.size + 1) (by have := s3.out; omega)).trans F3.out
    obtain ⟨m0, m1, m2, m3⟩ := two_cells F4
    obtain ⟨W9, hW9, g9, gr9, gs9⟩ := put_two (u := .int .i64 (reV b).1) (v := .slice P (reV b).2.length pc) F4
    obtain ⟨n0, n1, _, _⟩ := two_cells g9
    have r3 := s3.out
    have l3 := B3.out.size
    have hfin := Lib.hid (show Nod (New w.heap.size W9) W9 (.agg #[.int .i64 (reV b).1, .slice P (reV b).2.length pc]) (rmV s (k : Int)) from by
      rw [hV.out]
      exact (h4.grown gr9 (fun q e => by cases e; omega)).new l3 (Below.refl _ _))
    have hB9 := Lib.hid ((B3.out.trans (hb4.mono B3.out.size)).grown gr9 (Nat.le_trans l3 hb4.size) (fun q e => by cases e; omega))
    replace F4 := Lib.hid F4
    replace g9 := Lib.hid g9
    clear gr9 gs9 h4 hb4 r3 l3
    go_wp2_with fail
    refine bodyPost_ret (v := .tuple #[.agg #[.int .i64 (reV b).1, .slice P (reV b).2.length pc], .int .i64 q]) (by simp [results, Tryz.results80, go_sem, n0, n1]) rfl ?_
    rw [hE.out]
    exact ⟨_, rfl, hfin.out, hB9.out⟩
  · obtain ⟨hE, hV⟩ := rm_bad ha
    rw [hE] at hq
    have hq1 : (q != 0) = true := by rw [← hq]; simpa using ha
    have hq2 : Hid (asE s n = q) := Lib.hid hq
    replace hq : Hid (rmE s n = q) := Lib.hid (by rw [hE]; exact hq)
    replace hV := Lib.hid hV
    clear ha hE
    go_enter Tryz.func80, Tryz.ntmps80
    go_upto_region 1 with fail
    clear hw1
    go_wp2_with fail
    with_reducible refine (checkTakenR_any _ s n _ H.out).mono ?_
    rintro e w2 ⟨rfl, hb2⟩
    rw [hq2.out]
    have F2 := (hb2.block (w.heap.size + 1) (by rw [hsz.out]; omega)).trans f2.out
    replace hb2 := Lib.hid (hB.trans (hb2.mono hB.size))
    obtain ⟨m0, m1, m2, m3⟩ := two_cells F2
    obtain ⟨W9, hW9, g9, gr9, gs9⟩ := put_two (u := .int .i64 0) (v := .slice none 0 0) F2
    obtain ⟨n0, n1, _, _⟩ := two_cells g9
    have hB9 := Lib.hid ((hb2).out.grown gr9 (hb2).out.size (fun q e => by cases e; omega))
    replace g9 := Lib.hid g9
    replace F2 := Lib.hid F2
    clear gr9 gs9
    go_wp2_with fail
    refine bodyPost_ret (v := .tuple #[.agg #[.int .i64 0, .slice none 0 0], .int .i64 q]) (by simp [results, Tryz.results80, go_sem, n0, n1]) rfl ?_
    rw [hV.out, hq.out]
    exact ⟨_, rfl, nod_zero _ _, hB9.out⟩
end Go.Proofs.YtmdlgnlfgfhkmaaGreat

/-
  Layer 6's law helpers: leaf. Conditions: those that each lemma states.
-/
namespace Go.Proofs.YtmdlgnlfgfhkmaaGreat
open Go.RowKit

def rU4 : Rel (List Int) := rSl 1 (rK .u32)
theorem stab_u4 : Stab rU4 := stab_sl (stab_k _)
theorem u4_at {ok : Addr → Prop} {w : World} {A : Option Addr} {n c k : Nat} {xs : List Int} {x : Int} (h : rU4 ok w [.slice A n c] xs) (hk : xs[k]? = some x) : ∃ ad, A = some ad ∧ ok (ad.add k) ∧ w.cell? (ad.add k) = some (.int .u32 x) ∧ InU x := by
  obtain ⟨_, _, e, _, _, h4⟩ := h
  cases e
  obtain ⟨ad, vs, rfl, _, q, r1, r2, r3⟩ := h4 k x hk
  subst r1
  have := q 0 _ rfl
  rw [Nat.mul_one, Nat.add_zero] at this
  simp [IntKind.min, IntKind.max, IntKind.signed, IntKind.bits] at r2 r3
  exact ⟨ad, rfl, this.1, this.2, r2, by omega⟩
def leafI (x : Int) : It := ((2, 0, x), 0, [])
def leafN (xs : List Int) : Nd := (0, xs.map leafI)
theorem leafI_in {x : Int} (h : InU x) : InI (leafI x) := ⟨⟨⟨by show (0 : Int) ≤ 0; omega, by show (0 : Int) < _; omega⟩, h⟩, ⟨by show _ ≤ (0 : Int); omega, by show (0 : Int) ≤ _; omega⟩⟩

end Go.Proofs.YtmdlgnlfgfhkmaaGreat

/-
  Package node: Place. Conditions: those that each lemma states.
-/
namespace Go.Proofs.YtmdlgnlfgfhkmaaGreat
open Go.RowKit

def cntK (l : List It) (k : Ky) : Nat := (l.filter fun x => lessK x.1 k).length
theorem cntK_le (l : List It) (k : Ky) : cntK l k ≤ l.length := List.length_filter_le _ _
theorem cntK_take (l : List It) (k : Ky) (i : Nat) : cntK (l.take i) k ≤ i := Nat.le_trans (cntK_le _ _) (List.length_take_le _ _)
theorem cntK_yes {l : List It} {k : Ky} {i : Nat} {x : It} (hx : l[i]? = some x) (h : lessK x.1 k = true) : cntK (l.take (i + 1)) k = cntK (l.take i) k + 1 := by
  unfold cntK
  rw [List.take_add_one, hx, Option.toList_some, List.filter_append]
  simp [h]
theorem cntK_no {l : List It} {k : Ky} {i : Nat} {x : It} (hx : l[i]? = some x) (h : lessK x.1 k = false) : cntK (l.take (i + 1)) k = cntK (l.take i) k := by
  unfold cntK
  rw [List.take_add_one, hx, Option.toList_some, List.filter_append]
  simp [h]
def placeN (n : Nd) (k : Ky) : Nat := cntK n.2 k
def thereN (n : Nd) (k : Ky) : Bool := match n.2[placeN n k]? with
  | none => false
  | some x => decide (x.1 = k)
theorem thereN_out {n : Nd} {k : Ky} (h : n.2.length ≤ placeN n k) : thereN n k = false := by
  unfold thereN
  rw [List.getElem?_eq_none h]
theorem thereN_at {n : Nd} {k : Ky} {x : It} (h : n.2[placeN n k]? = some x) : thereN n k = decide (x.1 = k) := by
  unfold thereN
  rw [h]
set_option maxRecDepth 100000 in
theorem key_guard : Tryz.prog.eqGuardType Tryz.prog.depth 50 = false := by kernel_rfl
set_option maxRecDepth 100000 in
/-- Two keys held against each other, as the walk spells it. -/
theorem key_eq (a b : Ky) (w : World) : (Op.equalIn 10000 50 (kyV a) (kyV b)).run Tryz.prog w = .ok (decide (a = b)) w := by
  have hS : Tryz.prog.underlying 50 = some (.struct (Tryz.prog.fieldsOf 50)) := by kernel_rfl
  have hp : Tryz.prog.stoodInHeld 50 = false := by kernel_rfl
  have u3 := Tryz.underlying5
  have u4 := Tryz.underlying48
  have a3 := Tryz.isAgg5
  have z3 := Tryz.sizeOf5
  have a4 := Tryz.isAgg48
  have z4 := Tryz.sizeOf48
  obtain ⟨a1, a2, a3⟩ := a
  obtain ⟨b1, b2, b3⟩ := b
  have h : a1 = b1 ↔ (a1.toNat : Int) = b1.toNat := ⟨fun h => by rw [h], fun h => UInt8.toNat.inj (by omega)⟩
  simp only [Prod.mk.injEq, h]
  unfold kyV
  rw [show (10000 : Nat) = 9999 + 1 from rfl, run_equalIn_agg w 9999 50 _ _ hS hp]
  simp only [Program.fieldsOf, Tryz.underlying50]
  go_simp
  by_cases h1 : (a1.toNat : Int) = b1.toNat <;> by_cases h2 : a2 = b2 <;> by_cases h3 : a3 = b3 <;> simp [h1, h2, h3]

end Go.Proofs.YtmdlgnlfgfhkmaaGreat

/-
  Package node: Same. Conditions: those that each lemma states.
-/
namespace Go.Proofs.YtmdlgnlfgfhkmaaGreat
open Go.RowKit

def sameN (a b : Nd) : Bool := decide (a = b)
theorem sameN_self (a : Nd) : sameN a a = true := by simp [sameN]
theorem sameN_eq {a b : Nd} (h : sameN a b = true) : a = b := by simpa [sameN] using h
theorem sameN_comm (a b : Nd) : sameN a b = sameN b a := by
  unfold sameN
  rw [Bool.eq_iff_iff]
  simp only [decide_eq_true_eq]
  exact ⟨fun h => h.symm, fun h => h.symm⟩
def sameIs (xs ys : List It) : Bool := decide (xs = ys)

theorem sameN_parts (a b : Nd) : sameN a b = (decide (a.1 = b.1) && sameIs a.2 b.2) := by
  obtain ⟨a1, a2⟩ := a
  obtain ⟨b1, b2⟩ := b
  unfold sameN sameIs
  rw [Bool.eq_iff_iff]
  simp

end Go.Proofs.YtmdlgnlfgfhkmaaGreat

/-
  What nodes and their blocks tell of one another, plain. Layer 6's law helper alive. Conditions: those that each lemma states.
-/
namespace Go.Proofs.YtmdlgnlfgfhkmaaGreat
open Go.RowKit

structure InN (n : Nd) : Prop where
  lv : In64 n.1
  it : ∀ x ∈ n.2, InI x
theorem Nod.inN {ok : Addr → Prop} {w : World} {v : Value} {n : Nd} (h : Nod ok w v n) : InN n := by
  obtain ⟨A, c, _, h1, _, _, h2⟩ := h.open
  refine ⟨h1, fun x hx => ?_⟩
  obtain ⟨k, hk⟩ := List.mem_iff_getElem?.1 hx
  obtain ⟨_, _, _, _, _, _, _, _, _, hi⟩ := its_at h2 hk
  exact hi
theorem cutTo_its (l : List It) (xs : List UInt8) (h : ∀ x ∈ l, mayI x = true ∧ InI x) : ∀ k, k ≤ l.length → cutTo (itsB l ++ xs) k = some (l.take k, itsB (l.drop k) ++ xs)
  | 0, _ => by simp [cutTo]
  | k + 1, hk => by
    have hx : l[k]? = some l[k] := List.getElem?_eq_getElem hk
    obtain ⟨h1, h2⟩ := h l[k] (List.getElem_mem hk)
    have hd : itsB (l.drop k) ++ xs = itB l[k] ++ (itsB (l.drop (k + 1)) ++ xs) := by
      rw [List.drop_eq_getElem_cons hk, show itsB (l[k] :: l.drop (k + 1)) = itB l[k] ++ itsB (l.drop (k + 1)) from rfl, List.append_assoc]
    have ih := cutTo_its l xs h k (by omega)
    rw [hd] at ih
    obtain ⟨q0, q1, q2, _⟩ := itB_read l[k] (itsB (l.drop (k + 1)) ++ xs) h2 h1
    rw [cutTo_yes ih q0, q1, q2, List.take_add_one, hx]
    simp
theorem zeros_noughts (k : Nat) : noughtsB (zeros k) = true := by simp [noughtsB, zeros]
theorem noughts_zeros {b : List UInt8} (h : noughtsB b = true) : b = zeros b.length := by
  simp only [noughtsB, List.all_eq_true, beq_iff_eq] at h
  exact List.eq_replicate_iff.2 ⟨rfl, h⟩
theorem told_parts (n : Nd) : toldN n = [78, UInt8.ofNat n.1.toNat, UInt8.ofNat n.2.length] ++ itsB n.2 := rfl
/-- What is written is read. -/
theorem read_blkN {n : Nd} (h : mayN n = true) (hi : InN n) : reN (blkN n) = 0 ∧ reV (blkN n) = n := by
  have hl := toldN_len h
  obtain ⟨⟨s1, s2, s3, _⟩, _⟩ := mayN_of h
  have hob : ob (blkN n) = padN (toldN n) := by
    unfold ob
    rw [if_pos ⟨blkN_length h, fits_seal _⟩]
    exact seal_drop _
  have hoe : oe (blkN n) = 0 := by
    unfold oe
    rw [if_pos (blkN_length h), if_pos (show fits (blkN n) from fits_seal _)]
  obtain ⟨z, hz⟩ : ∃ z, 124 - (toldN n).length = z := ⟨_, rfl⟩
  have hp : padN (toldN n) = 78 :: UInt8.ofNat n.1.toNat :: UInt8.ofNat n.2.length :: (itsB n.2 ++ zeros z) := by
    rw [padN, hz, told_parts]
    simp
  have h0 : (ob (blkN n))[0]?.getD 0 = 78 := by rw [hob, hp]; rfl
  have h1 : lvlN (ob (blkN n)) = n.1 := by
    rw [hob, hp]
    show ((UInt8.ofNat n.1.toNat).toNat : Int) = n.1
    rw [UInt8.toNat_ofNat']
    omega
  have h2 : manyN (ob (blkN n)) = n.2.length := by
    rw [hob, hp]
    show (UInt8.ofNat n.2.length).toNat = n.2.length
    rw [UInt8.toNat_ofNat']
    omega
  have h3 : (ob (blkN n)).drop 3 = itsB n.2 ++ zeros z := by rw [hob, hp]; rfl
  have hc : cutTo ((ob (blkN n)).drop 3) (manyN (ob (blkN n))) = some (n.2, zeros z) := by
    rw [h2, h3, cutTo_its n.2 (zeros z) (fun x hx => ⟨mayN_all h x hx, hi.it x hx⟩) n.2.length (Nat.le_refl _)]
    simp [itsB]
  have hnd : ndN (ob (blkN n)) = n := by
    unfold ndN cutL
    rw [hc, h1]
    rfl
  have hr : rdN (ob (blkN n)) = true := by
    unfold rdN cutR
    rw [h0, hc, hnd, h]
    simp [zeros_noughts]
  obtain ⟨e1, e2⟩ := reN_good hoe hr
  exact ⟨e1, by rw [e2, hnd]⟩
/-- What is read is written so. -/
theorem blkN_read {b : List UInt8} (h : reN b = 0) : mayN (reV b) = true ∧ blkN (reV b) = b ∧ InN (reV b) := by
  have hoe : oe b = 0 := by
    unfold reN at h
    by_cases e : oe b = 0
    · exact e
    · rw [if_neg e] at h; exact absurd h e
  have hrd : rdN (ob b) = true := by
    unfold reN at h
    rw [if_pos hoe] at h
    cases e : rdN (ob b) with
    | true => rfl
    | false => rw [e] at h; cases h
  obtain ⟨e1, e2⟩ := reN_good hoe hrd
  obtain ⟨hlen, hfits, hob, h124⟩ := oe_zeroN hoe
  rw [e2]
  obtain ⟨bd, hbd⟩ : ∃ bd, ob b = bd := ⟨_, rfl⟩
  rw [hbd] at hrd h124 ⊢
  unfold rdN at hrd
  simp only [Bool.and_eq_true, decide_eq_true_eq] at hrd
  obtain ⟨h78, hs, hm, hn⟩ := hrd
  cases hc : cutTo (bd.drop 3) (manyN bd) with
  | none => rw [hc] at hs; cases hs
  | some p =>
    obtain ⟨l, r⟩ := p
    have hL : cutL (bd.drop 3) (manyN bd) = l := by simp [cutL, hc]
    have hR : cutR (bd.drop 3) (manyN bd) = r := by simp [cutR, hc]
    obtain ⟨c1, c2, c3⟩ := cutTo_bytes hc
    rw [hR] at hn
    have hnd : ndN bd = (lvlN bd, l) := by rw [ndN, hL]
    have hin : InN (ndN bd) := by
      rw [hnd]
      exact ⟨lvlN_in bd, fun x hx => (c3 x hx).2⟩
    refine ⟨hm, ?_, hin⟩
    have hsplit : bd = [78, bd[1]?.getD 0, bd[2]?.getD 0] ++ bd.drop 3 := by
      match bd, h124, h78 with
      | x :: y :: z :: q, _, h78 =>
        simp at h78
        simp [h78]
    have hT : toldN (ndN bd) = [78, bd[1]?.getD 0, bd[2]?.getD 0] ++ itsB l := by
      rw [hnd, told_parts, c2]
      have e1 : UInt8.ofNat (lvlN bd).toNat = bd[1]?.getD 0 := by simp [lvlN]
      have e2 : UInt8.ofNat (manyN bd) = bd[2]?.getD 0 := by simp [manyN]
      show [78, UInt8.ofNat (lvlN bd).toNat, UInt8.ofNat (manyN bd)] ++ itsB l = _
      rw [e1, e2]
    have hbody : bd = toldN (ndN bd) ++ r := by
      rw [hT, List.append_assoc, ← c1]
      exact hsplit
    have hpad : padN (toldN (ndN bd)) = bd := by
      have hl2 : (toldN (ndN bd)).length + r.length = 124 := by
        have := congrArg List.length hbody
        rw [List.length_append, h124] at this
        omega
      rw [padN, show 124 - (toldN (ndN bd)).length = r.length by omega, ← noughts_zeros hn]
      exact hbody.symm
    show sealN (toldN (ndN bd)) = b
    have hs : sealN (toldN (ndN bd)) = sealN bd := by
      unfold sealN
      rw [hpad, padN_full h124]
    rw [hs, ← hbd, hob]
    exact seal_back hlen hfits
theorem blkN_inj {a b : Nd} (ha : mayN a = true) (hb : mayN b = true) (ia : InN a) (ib : InN b) : decide (blkN a = blkN b) = sameN a b := by
  unfold sameN
  rw [Bool.eq_iff_iff]
  simp only [decide_eq_true_eq]
  refine ⟨fun h => ?_, fun h => by rw [h]⟩
  rw [← (read_blkN ha ia).2, h, (read_blkN hb ib).2]
theorem reN_no {b : List UInt8} (h : reN b ≠ 0) : reV b = zeroN := by
  by_cases e : oe b = 0
  · cases e2 : rdN (ob b) with
    | true => exact absurd (reN_good e e2).1 h
    | false => exact (reN_bad e e2).2
  · exact (reN_open e).2

/-! ### alive -/
theorem u4_lit (w : World) (t : TypeId) (xs : List Int) (cs : Array Value) (hc : cs.toList = xs.map fun x => Value.int .u32 x) (hb : xs.length ≤ 1000) (h : ∀ x ∈ xs, InU x) :
    rU4 (Old (w.alloc (.cells cs t))) (w.alloc (.cells cs t)) [.slice (some ⟨w.heap.size, 0, none⟩) xs.length xs.length] xs := by
  refine ⟨_, _, rfl, Nat.le_refl _, by omega, fun i x hi => ⟨_, [.int .u32 x], rfl, rfl, fun j v hj => ?_, rfl, ?_, ?_⟩⟩
  · have hj0 : j = 0 := by
      have := (List.getElem?_eq_some_iff.1 hj).1
      simp at this
      omega
    subst hj0
    cases hj
    have hcell : (w.alloc (.cells cs t)).cell? ((⟨w.heap.size, 0, none⟩ : Addr).add (i * 1 + 0)) = some (.int .u32 x) := by
      have e : ((⟨w.heap.size, 0, none⟩ : Addr).add (i * 1 + 0)) = ⟨w.heap.size, i, none⟩ := by unfold Addr.add; split <;> simp_all
      have e2 : cs[i]? = some (.int .u32 x) := by rw [← Array.getElem?_toList, hc, List.getElem?_map, hi]; rfl
      rw [e, ← e2]
      simp
    exact ⟨World.block_lt_of_cell? _ _ hcell, hcell⟩
  · have := (h x (List.mem_of_getElem? hi)).1
    simpa [IntKind.min, IntKind.signed, IntKind.bits] using this
  · have := (h x (List.mem_of_getElem? hi)).2
    simp [IntKind.max, IntKind.signed, IntKind.bits]
    omega
theorem u4_small {xs : List Int} (h : ∀ x ∈ xs, 0 ≤ x ∧ x < 1000) : ∀ x ∈ xs, InU x := fun x hx => by
  have := h x hx
  exact ⟨this.1, by omega⟩
theorem leafN_in {xs : List Int} (h : ∀ x ∈ xs, InU x) : InN (leafN xs) := ⟨⟨by show _ ≤ (0 : Int); omega, by show (0 : Int) ≤ _; omega⟩, fun x hx => by
  obtain ⟨y, hy, rfl⟩ := List.mem_map.1 hx
  exact leafI_in (h y hy)⟩

end Go.Proofs.YtmdlgnlfgfhkmaaGreat

/-
  Nodes made and left, plain: what is counted, what is left, and what follows. Conditions: those that each lemma states.
-/
namespace Go.Proofs.YtmdlgnlfgfhkmaaGreat
open Go.RowKit

/-! ### Refs, counted -/
/-- How often a block is among the Refs. -/
def cntR : List It → Nat → Nat
  | [], _ => 0
  | x :: l, i => (if x.2.1 = (i : Int) then (if x.2.1 = 0 then 0 else 1) else 0) + cntR l i
/-- Refs that are 0, or of a block. -/
def refsOk (l : List It) : Prop := ∀ x ∈ l, x.2.1 = 0 ∨ (8 ≤ x.2.1 ∧ x.2.1 < 256)
theorem refs_cons {x : It} {l : List It} (h : refsOk (x :: l)) : (x.2.1 = 0 ∨ ∃ k : Nat, x.2.1 = k ∧ 8 ≤ k ∧ k < 256) ∧ refsOk l := by
  refine ⟨?_, fun y hy => h y (List.mem_cons_of_mem _ hy)⟩
  rcases h x List.mem_cons_self with h1 | ⟨h1, h2⟩
  · exact .inl h1
  · exact .inr ⟨x.2.1.toNat, by omega, by omega, by omega⟩
theorem refs_may {n : Nd} (h : mayN n = true) : refsOk n.2 := fun x hx => by
  obtain ⟨i, hi⟩ := List.getElem?_of_mem hx
  have hk := (List.getElem?_eq_some_iff.1 hi).1
  simp only [mayN, Bool.and_eq_true, List.all_eq_true] at h
  have h1 := h.2 i (by simpa using hk)
  simp only [okAt, hi, okP, Bool.and_eq_true] at h1
  exact (mayI_of h1.1.1).1
theorem cntR_zero {x : It} {l : List It} (h : x.2.1 = 0) (i : Nat) : cntR (x :: l) i = cntR l i := by
  simp only [cntR, h, if_true]
  split <;> simp
theorem cntR_here {x : It} {l : List It} {k : Nat} (h : x.2.1 = k) (h8 : 8 ≤ k) (i : Nat) : cntR (x :: l) i = (if i = k then 1 else 0) + cntR l i := by
  simp only [cntR, h]
  by_cases e : i = k
  · subst e
    rw [if_pos rfl, if_neg (by omega), if_pos rfl]
  · rw [if_neg (by omega), if_neg e]
theorem cntR_low {l : List It} (h : refsOk l) {i : Nat} (hi : i < 8 ∨ 256 ≤ i) : cntR l i = 0 := by
  induction l with
  | nil => rfl
  | cons x l ih =>
    obtain ⟨h1, h2⟩ := refs_cons h
    rcases h1 with h1 | ⟨k, h1, h8, h256⟩
    · rw [cntR_zero h1, ih h2]
    · rw [cntR_here h1 h8, ih h2, if_neg (by omega)]
/-- Counting goes on: what is wrong, and the counts. -/
def ctE : List UInt8 → List It → Int
  | _, [] => 0
  | t, x :: l => if x.2.1 = 0 then ctE t l else if t[x.2.1.toNat]?.getD 0 = 0 then 6 else if t[x.2.1.toNat]?.getD 0 = 255 then 70 else ctE (t.set x.2.1.toNat (t[x.2.1.toNat]?.getD 0 + 1)) l
def ctV : List UInt8 → List It → List UInt8
  | t, [] => t
  | t, x :: l => if x.2.1 = 0 then ctV t l else ctV (t.set x.2.1.toNat (t[x.2.1.toNat]?.getD 0 + 1)) l
theorem ctV_len : ∀ (l : List It) (t : List UInt8), (ctV t l).length = t.length
  | [], _ => rfl
  | x :: l, t => by
    unfold ctV
    split
    · exact ctV_len l t
    · rw [ctV_len l, List.length_set]
theorem ctE_app : ∀ (a b : List It) (t : List UInt8), ctE t (a ++ b) = if ctE t a = 0 then ctE (ctV t a) b else ctE t a
  | [], b, t => by simp [ctE, ctV]
  | x :: a, b, t => by
    simp only [List.cons_append, ctE, ctV]
    split
    · exact ctE_app a b t
    · split
      · simp
      · split
        · simp
        · exact ctE_app a b _
theorem ctV_app : ∀ (a b : List It) (t : List UInt8), ctV t (a ++ b) = ctV (ctV t a) b
  | [], b, t => rfl
  | x :: a, b, t => by
    simp only [List.cons_append, ctV]
    split
    · exact ctV_app a b t
    · exact ctV_app a b _
theorem up_nat {x : UInt8} (h : x ≠ 255) : (x + 1).toNat = x.toNat + 1 := by
  have := (up_byte h).1
  omega
theorem dn_nat {x : UInt8} (h : x ≠ 0) : (x - 1).toNat + 1 = x.toNat := by
  have h1 := (up_byte (x := x - 1) (byte_dn_ne h)).1
  rw [byte_back.2] at h1
  omega
theorem nat_zero {x : UInt8} : x.toNat = 0 ↔ x = 0 := ⟨fun h => UInt8.toNat_inj.1 (by rw [h]; rfl), fun h => by rw [h]; rfl⟩
theorem nat_255 {x : UInt8} : x.toNat = 255 ↔ x = 255 := ⟨fun h => UInt8.toNat_inj.1 (by rw [h]; rfl), fun h => by rw [h]; rfl⟩
/-- What counting asks, and gives. -/
theorem ct_counts : ∀ (l : List It) (t : List UInt8), refsOk l → t.length = 256 → ctE t l = 0 →
    (∀ i, ((ctV t l)[i]?.getD 0).toNat = (t[i]?.getD 0).toNat + cntR l i) ∧ (∀ i, cntR l i ≠ 0 → t[i]?.getD 0 ≠ 0)
  | [], t, _, _, _ => ⟨fun i => by simp [ctV, cntR], fun i h => absurd rfl h⟩
  | x :: l, t, hr, hl, h => by
    obtain ⟨h1, h2⟩ := refs_cons hr
    unfold ctE at h
    unfold ctV
    rcases h1 with h1 | ⟨k, h1, h8, h256⟩
    · rw [if_pos h1] at h ⊢
      obtain ⟨c1, c2⟩ := ct_counts l t h2 hl h
      exact ⟨fun i => by rw [c1 i, cntR_zero h1], fun i hi => c2 i (by rwa [cntR_zero h1] at hi)⟩
    · have e0 : ¬ x.2.1 = 0 := by omega
      have ek : x.2.1.toNat = k := by omega
      rw [if_neg e0, ek] at h
      rw [if_neg e0, ek]
      by_cases hz : t[k]?.getD 0 = 0
      · rw [if_pos hz] at h; cases h
      · by_cases hm : t[k]?.getD 0 = 255
        · rw [if_neg hz, if_pos hm] at h; cases h
        · rw [if_neg hz, if_neg hm] at h
          obtain ⟨c1, c2⟩ := ct_counts l (t.set k (t[k]?.getD 0 + 1)) h2 (by rw [List.length_set, hl]) h
          refine ⟨fun i => ?_, fun i hi => ?_⟩
          · rw [c1 i, cntR_here h1 h8]
            by_cases e : i = k
            · subst e
              rw [set_get (by omega), up_nat hm, if_pos rfl]
              omega
            · rw [set_other e, if_neg e]
              omega
          · by_cases e : i = k
            · subst e; exact hz
            · rw [cntR_here h1 h8, if_neg e, Nat.zero_add] at hi
              have := c2 i hi
              rwa [set_other e] at this
theorem list_same {a b : List UInt8} (hl : a.length = b.length) (h : ∀ i : Nat, (a[i]?.getD 0).toNat = (b[i]?.getD 0).toNat) : a = b := by
  refine List.ext_getElem hl fun i h1 h2 => ?_
  have := UInt8.toNat_inj.1 (h i)
  rwa [List.getElem?_eq_getElem h1, List.getElem?_eq_getElem h2] at this
theorem ct_may {t : List UInt8} {l : List It} (hm : mayT t = true) (hr : refsOk l) (h : ctE t l = 0) : mayT (ctV t l) = true := by
  have hl := mayT_len hm
  obtain ⟨c1, _⟩ := ct_counts l t hr hl h
  refine mayT_yes (by rw [ctV_len, hl]) fun j hj => nat_zero.1 ?_
  rw [c1 j, cntR_low hr (.inl hj), mayT_at hm hj]
  rfl
theorem ct_zero {t : List UInt8} {l : List It} (hl : t.length = 256) (hr : refsOk l) (h : ctE t l = 0) (i : Nat) : (ctV t l)[i]?.getD 0 = 0 ↔ t[i]?.getD 0 = 0 := by
  obtain ⟨c1, c2⟩ := ct_counts l t hr hl h
  rw [← nat_zero, c1 i, ← nat_zero (x := t[i]?.getD 0)]
  refine ⟨fun h => by omega, fun h => ?_⟩
  by_cases e : cntR l i = 0
  · omega
  · exact absurd (nat_zero.1 h) (c2 i e)

/-! ### To make -/
/-- A store in which a node's Refs are counted. -/
def ctS (s : Rm) (n : Nd) : Rm := (s.1, ctV s.2.1 n.2, s.2.2)
def mkE (s : Rm) (n : Nd) : Int := if mayR s && mayN n then (if ctE s.2.1 n.2 = 0 then tkE (ctS s n) (blkN n) else ctE s.2.1 n.2) else 8
def mkN (s : Rm) (n : Nd) : Int := if mkE s n = 0 then tkN (ctS s n) (blkN n) else 0
def mkV (s : Rm) (n : Nd) : Rm := if mkE s n = 0 then tkV (ctS s n) (blkN n) else emptyR
theorem mk_no {s : Rm} {n : Nd} (h : mkE s n ≠ 0) : mkN s n = 0 ∧ mkV s n = emptyR := ⟨by rw [mkN, if_neg h], by rw [mkV, if_neg h]⟩
theorem ctS_may {s : Rm} {n : Nd} (hm : mayR s = true) (hn : mayN n = true) (h : ctE s.2.1 n.2 = 0) : mayR (ctS s n) = true := by
  obtain ⟨m1, m2, m3⟩ := mayR_of hm
  exact mayR_mk m1 (ct_may m2 (refs_may hn) h) m3
theorem ctS_free {s : Rm} {n : Nd} (hm : mayR s = true) (hn : mayN n = true) (h : ctE s.2.1 n.2 = 0) : freeL (ctS s n) = freeL s := by
  unfold freeL freeK
  refine List.filter_congr fun i _ => ?_
  have := ct_zero (mayT_len (mayR_of hm).2.1) (refs_may hn) h i
  show (decide ((ctV s.2.1 n.2)[i]?.getD 0 = 0) && _) = (decide (s.2.1[i]?.getD 0 = 0) && _)
  rw [decide_eq_decide.2 this]
  rfl
theorem mk_ok {s : Rm} {n : Nd} (h : mkE s n = 0) : mayR s = true ∧ mayN n = true ∧ ctE s.2.1 n.2 = 0 ∧ tkE (ctS s n) (blkN n) = 0 ∧ mkN s n = tkN (ctS s n) (blkN n) ∧ mkV s n = tkV (ctS s n) (blkN n) := by
  have hN : mkN s n = tkN (ctS s n) (blkN n) := by rw [mkN, if_pos h]
  have hV : mkV s n = tkV (ctS s n) (blkN n) := by rw [mkV, if_pos h]
  unfold mkE at h
  cases hm : mayR s with
  | false => rw [hm] at h; simp at h
  | true =>
    cases hn : mayN n with
    | false => rw [hm, hn] at h; simp at h
    | true =>
      rw [hm, hn] at h
      simp only [Bool.and_self, if_true] at h
      by_cases hc : ctE s.2.1 n.2 = 0
      · rw [if_pos hc] at h
        exact ⟨rfl, rfl, hc, h, hN, hV⟩
      · rw [if_neg hc] at h
        exact absurd h hc
/-- What a node that is made leaves. -/
theorem mk_counts {s : Rm} {n : Nd} (h : mkE s n = 0) : ∃ k : Nat, mkN s n = k ∧ 8 ≤ k ∧ k < 256 ∧ s.2.1[k]?.getD 0 = 0 ∧ s.2.2[k]?.getD 0 = 0 ∧ cntR n.2 k = 0 ∧ mkV s n = (wrD s.1 k (blkN n), (ctV s.2.1 n.2).set k 1, s.2.2) ∧ mayR (mkV s n) = true ∧
    (mkV s n).2.1[k]?.getD 0 = 1 ∧ (∀ i, i ≠ k → ((mkV s n).2.1[i]?.getD 0).toNat = (s.2.1[i]?.getD 0).toNat + cntR n.2 i) ∧ (∀ i, cntR n.2 i ≠ 0 → s.2.1[i]?.getD 0 ≠ 0) ∧ (mkV s n).2.1.length = 256 ∧ s.2.1.length = 256 := by
  obtain ⟨hm, hn, hc, ht, e1, e2⟩ := mk_ok h
  obtain ⟨_, _, _, _, h8, h256, hz, hz2, hN, hV⟩ := tk_ok ht
  have hl := mayT_len (mayR_of hm).2.1
  have hr := refs_may hn
  obtain ⟨c1, c2⟩ := ct_counts n.2 s.2.1 hr hl hc
  generalize tkK (ctS s n) = k at *
  have z1 : s.2.1[k]?.getD 0 = 0 := (ct_zero hl hr hc k).1 hz
  have z2 : cntR n.2 k = 0 := by
    by_cases e : cntR n.2 k = 0
    · exact e
    · exact absurd z1 (c2 k e)
  have hV' : mkV s n = (wrD s.1 k (blkN n), (ctV s.2.1 n.2).set k 1, s.2.2) := by rw [e2, hV]; rfl
  refine ⟨k, by rw [e1, hN], h8, h256, z1, hz2, z2, hV', by rw [e2]; exact tk_may ht, ?_, fun i hi => ?_, c2, ?_, hl⟩
  · rw [hV']; exact set_get (by rw [ctV_len]; omega)
  · rw [hV']
    show (((ctV s.2.1 n.2).set k 1)[i]?.getD 0).toNat = _
    rw [set_other hi]
    exact c1 i
  · rw [hV']
    show ((ctV s.2.1 n.2).set k 1).length = _
    rw [List.length_set, ctV_len, hl]

/-! ### To leave -/
def dnO (t : List UInt8) (a : Nat) : Option (List UInt8) := if t[a]?.getD 0 = 0 then none else some (t.set a (t[a]?.getD 0 - 1))
def eachO (f : List UInt8 → Nat → Option (List UInt8)) : List UInt8 → List It → Option (List UInt8)
  | t, [] => some t
  | t, x :: l => if x.2.1 = 0 then eachO f t l else (f t x.2.1.toNat).bind fun t' => eachO f t' l
noncomputable def lvS (d : Dk) (l : Nat) (f : List UInt8 → Nat → Option (List UInt8)) (t : List UInt8) (a : Nat) : Option (List UInt8) :=
  (dnO t a).bind fun t' => if 1 < (t[a]?.getD 0).toNat then some t' else if reN (seenD d a) = 0 ∧ (reV (seenD d a)).1 = (l : Int) then eachO f t' (reV (seenD d a)).2 else none
/-- How what a node of a level refers to is left. -/
noncomputable def lvF (d : Dk) : Nat → List UInt8 → Nat → Option (List UInt8)
  | 0 => dnO
  | l + 1 => lvS d l (lvF d l)
noncomputable def lfO (d : Dk) (t : List UInt8) (a : Nat) : Option (List UInt8) :=
  (dnO t a).bind fun t' => if 1 < (t[a]?.getD 0).toNat then some t' else if reN (seenD d a) = 0 then eachO (lvF d (reV (seenD d a)).1.toNat) t' (reV (seenD d a)).2 else none
noncomputable def lvE (s : Rm) (n : Int) : Int := if asE s n = 0 then (match lfO s.1 s.2.1 n.toNat with | some _ => 0 | none => 8) else asE s n
noncomputable def lvV (s : Rm) (n : Int) : Rm := if asE s n = 0 then (match lfO s.1 s.2.1 n.toNat with | some t => (s.1, t, s.2.2) | none => emptyR) else emptyR
def loV (s : Rm) (n : Int) : Rm := if asE s n = 0 then (s.1, s.2.1.set n.toNat (s.2.1[n.toNat]?.getD 0 - 1), s.2.2) else emptyR
theorem each_app (f : List UInt8 → Nat → Option (List UInt8)) : ∀ (a b : List It) (t : List UInt8), eachO f t (a ++ b) = (eachO f t a).bind fun t' => eachO f t' b
  | [], b, t => rfl
  | x :: a, b, t => by
    simp only [List.cons_append, eachO]
    split
    · exact each_app f a b t
    · cases f t x.2.1.toNat with
      | none => rfl
      | some u => exact each_app f a b u

/-- No count is more than it was. -/
structure LeT (u t : List UInt8) : Prop where
  len : u.length = t.length
  le : ∀ i : Nat, (u[i]?.getD 0).toNat ≤ (t[i]?.getD 0).toNat
theorem LeT.refl (t : List UInt8) : LeT t t := ⟨rfl, fun _ => Nat.le_refl _⟩
theorem LeT.trans {a b c : List UInt8} (h : LeT a b) (h' : LeT b c) : LeT a c := ⟨h.len.trans h'.len, fun i => Nat.le_trans (h.le i) (h'.le i)⟩
theorem dnO_some {t u : List UInt8} {a : Nat} (h : dnO t a = some u) : t[a]?.getD 0 ≠ 0 ∧ u = t.set a (t[a]?.getD 0 - 1) ∧ LeT u t ∧ (u[a]?.getD 0).toNat + 1 = (t[a]?.getD 0).toNat := by
  unfold dnO at h
  by_cases hz : t[a]?.getD 0 = 0
  · rw [if_pos hz] at h; cases h
  · rw [if_neg hz] at h
    cases h
    have ha : a < t.length := by
      by_cases e : a < t.length
      · exact e
      · exact absurd (by rw [List.getElem?_eq_none (by omega)]; rfl) hz
    refine ⟨hz, rfl, ⟨List.length_set, fun i => ?_⟩, ?_⟩
    · by_cases e : i = a
      · subst e
        rw [set_get ha]
        have := dn_nat hz
        omega
      · rw [set_other e]
        exact Nat.le_refl _
    · rw [set_get ha]
      exact dn_nat hz
theorem each_le {f : List UInt8 → Nat → Option (List UInt8)} (hf : ∀ t a u, f t a = some u → LeT u t) : ∀ (l : List It) (t u : List UInt8), eachO f t l = some u → LeT u t
  | [], t, u, h => by cases h; exact LeT.refl _
  | x :: l, t, u, h => by
    unfold eachO at h
    split at h
    · exact each_le hf l t u h
    · cases hx : f t x.2.1.toNat with
      | none => rw [hx] at h; cases h
      | some v =>
        rw [hx] at h
        exact (each_le hf l v u h).trans (hf _ _ _ hx)
theorem lvS_le {d : Dk} {l : Nat} {f : List UInt8 → Nat → Option (List UInt8)} (hf : ∀ t a u, f t a = some u → LeT u t) (t : List UInt8) (a : Nat) (u : List UInt8) (h : lvS d l f t a = some u) : LeT u t := by
  unfold lvS at h
  cases hd : dnO t a with
  | none => rw [hd] at h; cases h
  | some v =>
    rw [hd] at h
    have h' : (if 1 < (t[a]?.getD 0).toNat then some v else if reN (seenD d a) = 0 ∧ (reV (seenD d a)).1 = (l : Int) then eachO f v (reV (seenD d a)).2 else none) = some u := h
    have hv := (dnO_some hd).2.2.1
    split at h'
    · cases h'; exact hv
    · split at h'
      · exact (each_le hf _ _ _ h').trans hv
      · cases h'
theorem lvF_le (d : Dk) : ∀ (l : Nat) (t : List UInt8) (a : Nat) (u : List UInt8), lvF d l t a = some u → LeT u t
  | 0, _, _, _, h => (dnO_some h).2.2.1
  | l + 1, t, a, u, h => lvS_le (lvF_le d l) t a u h
/-- What a leave leaves. -/
theorem lf_some {d : Dk} {t u : List UInt8} {a : Nat} (h : lfO d t a = some u) : t[a]?.getD 0 ≠ 0 ∧ LeT u t ∧ (u[a]?.getD 0).toNat + 1 ≤ (t[a]?.getD 0).toNat ∧ (1 < (t[a]?.getD 0).toNat → u = t.set a (t[a]?.getD 0 - 1)) := by
  unfold lfO at h
  cases hd : dnO t a with
  | none => rw [hd] at h; cases h
  | some v =>
    rw [hd] at h
    have h' : (if 1 < (t[a]?.getD 0).toNat then some v else if reN (seenD d a) = 0 then eachO (lvF d (reV (seenD d a)).1.toNat) v (reV (seenD d a)).2 else none) = some u := h
    obtain ⟨h1, h2, hv, h3⟩ := dnO_some hd
    split at h'
    · cases h'
      exact ⟨h1, hv, by omega, fun _ => h2⟩
    · rename_i hn
      split at h'
      · have := each_le (lvF_le d _) _ _ _ h'
        have h4 := this.le a
        exact ⟨h1, this.trans hv, by omega, fun hc => absurd hc hn⟩
      · cases h'
theorem LeT.may {u t : List UInt8} (h : LeT u t) (hm : mayT t = true) : mayT u = true :=
  mayT_yes (by rw [h.len]; exact mayT_len hm) fun j hj => by
    have h1 := h.le j
    rw [mayT_at hm hj] at h1
    exact nat_zero.1 (by simpa using h1)
/-- Each that has more than one is one less, whatever it is. -/
def Many (f : List UInt8 → Nat → Option (List UInt8)) : Prop := ∀ t a, 1 < (t[a]?.getD 0).toNat → f t a = some (t.set a (t[a]?.getD 0 - 1))
theorem dnO_yes {t : List UInt8} {a : Nat} (h : t[a]?.getD 0 ≠ 0) : dnO t a = some (t.set a (t[a]?.getD 0 - 1)) := by rw [dnO, if_neg h]
theorem not_zero {x : UInt8} (h : 1 < x.toNat) : x ≠ 0 := fun e => by
  rw [nat_zero.2 e] at h
  omega
theorem lvF_many (d : Dk) : ∀ l, Many (lvF d l)
  | 0 => fun t a h => dnO_yes (not_zero h)
  | l + 1 => fun t a h => by
    show lvS d l (lvF d l) t a = _
    unfold lvS
    rw [dnO_yes (not_zero h)]
    show (if 1 < (t[a]?.getD 0).toNat then _ else _) = _
    rw [if_pos h]
/-- What was counted, and is left: it is as it was. -/
theorem each_back {f : List UInt8 → Nat → Option (List UInt8)} (hf : Many f) : ∀ (l : List It) (u v : List UInt8), refsOk l → u.length = 256 → v.length = 256 → (∀ i, (u[i]?.getD 0).toNat = (v[i]?.getD 0).toNat + cntR l i) → (∀ i, cntR l i ≠ 0 → v[i]?.getD 0 ≠ 0) → eachO f u l = some v
  | [], u, v, _, h1, h2, h, _ => congrArg some (list_same (by omega) h)
  | x :: l, u, v, hr, h1, h2, h, h' => by
    obtain ⟨r1, r2⟩ := refs_cons hr
    unfold eachO
    rcases r1 with r1 | ⟨k, r1, h8, h256⟩
    · rw [if_pos r1]
      exact each_back hf l u v r2 h1 h2 (fun i => by rw [h i, cntR_zero r1]) (fun i hi => h' i (by rwa [cntR_zero r1]))
    · have e0 : ¬ x.2.1 = 0 := by omega
      have ek : x.2.1.toNat = k := by omega
      have hk := h k
      rw [cntR_here r1 h8, if_pos rfl] at hk
      have hv := h' k (by rw [cntR_here r1 h8, if_pos rfl]; omega)
      have hv' : (v[k]?.getD 0).toNat ≠ 0 := fun e => hv (nat_zero.1 e)
      have hu : 1 < (u[k]?.getD 0).toNat := by omega
      rw [if_neg e0, ek, hf u k hu]
      show eachO f (u.set k (u[k]?.getD 0 - 1)) l = some v
      refine each_back hf l _ v r2 (by rw [List.length_set, h1]) h2 (fun i => ?_) (fun i hi => h' i (by rw [cntR_here r1 h8]; omega))
      by_cases e : i = k
      · subst e
        rw [set_get (by omega)]
        have := dn_nat (not_zero hu)
        omega
      · rw [set_other e, h i, cntR_here r1 h8, if_neg e]
        omega
/-- A node that is there once, whose Refs are counted: it is left. -/
theorem lf_back {d : Dk} {u v : List UInt8} {k : Nat} {n : Nd} (hb : seenD d k = blkN n) (hn : mayN n = true) (hi : InN n) (h1 : u.length = 256) (h2 : v.length = 256) (hk : k < 256) (hu : u[k]?.getD 0 = 1) (hv : v[k]?.getD 0 = 0) (hz : cntR n.2 k = 0)
    (h : ∀ i, i ≠ k → (u[i]?.getD 0).toNat = (v[i]?.getD 0).toNat + cntR n.2 i) (h' : ∀ i, cntR n.2 i ≠ 0 → v[i]?.getD 0 ≠ 0) : lfO d u k = some v := by
  obtain ⟨r1, r2⟩ := read_blkN hn hi
  unfold lfO
  rw [dnO_yes (by rw [hu]; decide), hu, hb, r1, r2]
  show eachO (lvF d n.1.toNat) (u.set k (1 - 1)) n.2 = some v
  refine each_back (lvF_many d _) n.2 _ v (refs_may hn) (by rw [List.length_set, h1]) h2 (fun i => ?_) h'
  by_cases e : i = k
  · subst e
    rw [set_get (by omega), hv, hz]
    rfl
  · rw [set_other e, h i e]

/-! ### What follows -/
theorem lv_ways (s : Rm) (n : Int) : (asE s n ≠ 0 ∧ lvE s n = asE s n ∧ lvV s n = emptyR) ∨ (∃ k : Nat, asE s n = 0 ∧ n = k ∧ mayR s = true ∧ 8 ≤ k ∧ k < 256 ∧ s.2.1[k]?.getD 0 ≠ 0 ∧ lfO s.1 s.2.1 k = none ∧ lvE s n = 8 ∧ lvV s n = emptyR) ∨
    (∃ (k : Nat) (u : List UInt8), asE s n = 0 ∧ n = k ∧ mayR s = true ∧ 8 ≤ k ∧ k < 256 ∧ s.2.1[k]?.getD 0 ≠ 0 ∧ lfO s.1 s.2.1 k = some u ∧ lvE s n = 0 ∧ lvV s n = (s.1, u, s.2.2)) := by
  by_cases h : asE s n = 0
  · right
    rcases as_ways s n with ⟨_, e⟩ | ⟨_, _, e⟩ | ⟨k, _, _, _, _, _, e⟩ | ⟨k, hm, rfl, h8, h256, hx, e⟩
    · rw [e] at h; cases h
    · rw [e] at h; cases h
    · rw [e] at h; cases h
    · have ek : ((k : Int)).toNat = k := by omega
      cases hf : lfO s.1 s.2.1 k with
      | none => exact .inl ⟨k, h, rfl, hm, h8, h256, hx, hf, by rw [lvE, if_pos h, ek, hf], by rw [lvV, if_pos h, ek, hf]⟩
      | some u => exact .inr ⟨k, u, h, rfl, hm, h8, h256, hx, hf, by rw [lvE, if_pos h, ek, hf], by rw [lvV, if_pos h, ek, hf]⟩
  · exact .inl ⟨h, by rw [lvE, if_neg h], by rw [lvV, if_neg h]⟩
theorem as_yes {s : Rm} {k : Nat} (hm : mayR s = true) (h8 : 8 ≤ k) (h : k < 256) (hx : s.2.1[k]?.getD 0 ≠ 0) : asE s k = 0 := by
  have hin := inT_of h8 h
  have h1 : ¬ s.2.1[((k : Int)).toNat]?.getD 0 = 0 := by
    rw [show ((k : Int)).toNat = k by omega]
    exact hx
  rw [asE, hm, if_pos rfl, hin, if_pos rfl, if_neg h1]
theorem lv_yes {s : Rm} {k : Nat} {v : List UInt8} (ha : asE s k = 0) (hf : lfO s.1 s.2.1 k = some v) : lvE s k = 0 ∧ lvV s k = (s.1, v, s.2.2) := by
  constructor
  · rw [lvE, if_pos ha, show ((k : Int)).toNat = k by omega, hf]
  · rw [lvV, if_pos ha, show ((k : Int)).toNat = k by omega, hf]
theorem rm_yes {s : Rm} {k : Nat} {n : Nd} (ha : asE s k = 0) (hb : seenD s.1 k = blkN n) (hn : mayN n = true) (hi : InN n) : rmE s k = 0 ∧ rmV s k = n := by
  obtain ⟨r1, r2⟩ := read_blkN hn hi
  constructor
  · rw [rmE, if_pos ha, show ((k : Int)).toNat = k by omega, hb, r1]
  · rw [rmV, if_pos ha, show ((k : Int)).toNat = k by omega, hb, r2]
/-- What is made, and then left. -/
theorem mk_left {s : Rm} {n : Nd} (hi : InN n) (h : mkE s n = 0) : ∃ k : Nat, mkN s n = k ∧ 8 ≤ k ∧ k < 256 ∧ s.2.1[k]?.getD 0 = 0 ∧ s.2.2[k]?.getD 0 = 0 ∧ rmE (mkV s n) k = 0 ∧ rmV (mkV s n) k = n ∧ lvE (mkV s n) k = 0 ∧ lvV (mkV s n) k = (wrD s.1 k (blkN n), s.2.1, s.2.2) := by
  obtain ⟨_, hn, _⟩ := mk_ok h
  obtain ⟨k, e1, h8, h256, hz, hz2, hc, hV, hm, c1, c2, c3, hl, hl0⟩ := mk_counts h
  have ha : asE (mkV s n) k = 0 := as_yes hm h8 h256 (by rw [c1]; decide)
  have hb : seenD (mkV s n).1 k = blkN n := by rw [hV]; exact seenD_write
  have hf : lfO (mkV s n).1 (mkV s n).2.1 k = some s.2.1 := lf_back (n := n) hb hn hi hl hl0 h256 c1 hz hc c2 c3
  obtain ⟨r1, r2⟩ := rm_yes ha hb hn hi
  obtain ⟨l1, l2⟩ := lv_yes ha hf
  exact ⟨k, e1, h8, h256, hz, hz2, r1, r2, l1, by rw [l2, hV]⟩
/-- A node that is made twice, and left in either order. -/
theorem mk_twice {s : Rm} {n : Nd} (hi : InN n) (h : mkE s n = 0) (h' : mkE (mkV s n) n = 0) : ∃ a b : Nat, mkN s n = a ∧ mkN (mkV s n) n = b ∧ a ≠ b ∧
    rmE (mkV (mkV s n) n) a = 0 ∧ rmV (mkV (mkV s n) n) a = n ∧ rmE (mkV (mkV s n) n) b = 0 ∧ rmV (mkV (mkV s n) n) b = n ∧
    (∀ i, cntR n.2 i ≠ 0 → (s.2.1[i]?.getD 0).toNat + 2 ≤ ((mkV (mkV s n) n).2.1[i]?.getD 0).toNat) ∧
    lvE (mkV (mkV s n) n) a = 0 ∧ lvE (lvV (mkV (mkV s n) n) a) b = 0 ∧ (lvV (lvV (mkV (mkV s n) n) a) b).2.1 = s.2.1 ∧
    lvE (mkV (mkV s n) n) b = 0 ∧ lvE (lvV (mkV (mkV s n) n) b) a = 0 ∧ (lvV (lvV (mkV (mkV s n) n) b) a).2.1 = s.2.1 := by
  obtain ⟨_, hn, _⟩ := mk_ok h
  obtain ⟨a, e1, a8, a256, az, az2, ac, aV, am, ac1, ac2, ac3, al, al0⟩ := mk_counts h
  obtain ⟨b, e2, b8, b256, bz, bz2, bc, bV, bm, bc1, bc2, bc3, bl, bl0⟩ := mk_counts h'
  have hab : a ≠ b := fun e => by
    rw [← e, ac1] at bz
    cases bz
  generalize hT : mkV s n = T at *
  generalize hU : mkV T n = U at *
  -- counts that stand when the first alone is left
  have hr := refs_may hn
  have ub : U.1 = wrD T.1 b (blkN n) := by rw [bV]
  have ta : T.1 = wrD s.1 a (blkN n) := by rw [aV]
  have tb : T.2.1 = (ctV s.2.1 n.2).set a 1 := by rw [aV]
  have sa : seenD U.1 a = blkN n := by
    rw [ub, seenD_write_ne hab, ta]
    exact seenD_write
  have sb : seenD U.1 b = blkN n := by
    rw [ub]
    exact seenD_write
  have sbz : s.2.1[b]?.getD 0 = 0 := by
    have := ac2 b (Ne.symm hab)
    rw [bz, bc] at this
    exact nat_zero.1 (by simpa using this.symm)
  have hua : U.2.1[a]?.getD 0 = 1 := UInt8.toNat_inj.1 (by rw [bc2 a hab, ac1, ac]; rfl)
  have haU : asE U a = 0 := as_yes bm a8 a256 (by rw [hua]; decide)
  have hbU : asE U b = 0 := as_yes bm b8 b256 (by rw [bc1]; decide)
  obtain ⟨r1, r2⟩ := rm_yes haU sa hn hi
  obtain ⟨r3, r4⟩ := rm_yes hbU sb hn hi
  -- the second is left first
  have hf1 : lfO U.1 U.2.1 b = some T.2.1 := lf_back (n := n) sb hn hi bl bl0 b256 bc1 bz bc bc2 bc3
  obtain ⟨l1, l2⟩ := lv_yes hbU hf1
  have hm1 : mayR (U.1, T.2.1, U.2.2) = true := mayR_mk (mayR_of bm).1 (mayR_of am).2.1 (mayR_of bm).2.2
  have ha1 : asE (U.1, T.2.1, U.2.2) a = 0 := as_yes hm1 a8 a256 (by rw [ac1]; decide)
  have hf2 : lfO U.1 T.2.1 a = some s.2.1 := lf_back (n := n) sa hn hi al al0 a256 ac1 az ac ac2 ac3
  obtain ⟨l3, l4⟩ := lv_yes (s := (U.1, T.2.1, U.2.2)) ha1 hf2
  -- the first is left first
  obtain ⟨v, hv⟩ : ∃ v, (ctV s.2.1 n.2).set b 1 = v := ⟨_, rfl⟩
  obtain ⟨c1, _⟩ := ct_counts n.2 s.2.1 hr al0 (by
    obtain ⟨_, _, hc, _⟩ := mk_ok h
    exact hc)
  have vl : v.length = 256 := by rw [← hv, List.length_set, ctV_len, al0]
  have vb : v[b]?.getD 0 = 1 := by rw [← hv]; exact set_get (by rw [ctV_len]; omega)
  have vo : ∀ i, i ≠ b → (v[i]?.getD 0).toNat = (s.2.1[i]?.getD 0).toNat + cntR n.2 i := fun i hi => by
    rw [← hv, set_other hi]
    exact c1 i
  have va : v[a]?.getD 0 = 0 := nat_zero.1 (by rw [vo a hab, az, ac]; rfl)
  have hf3 : lfO U.1 U.2.1 a = some v := by
    refine lf_back (n := n) sa hn hi bl vl a256 hua va ac (fun i hia => ?_) (fun i hic => ?_)
    · by_cases e : i = b
      · subst e
        rw [bc1, vb, bc]; rfl
      · rw [bc2 i e, ac2 i hia, vo i e]
    · intro hz
      by_cases e : i = b
      · subst e
        rw [vb] at hz
        cases hz
      · have := vo i e
        rw [hz] at this
        have h0 : ((0 : UInt8).toNat : Nat) = 0 := rfl
        omega
  obtain ⟨l5, l6⟩ := lv_yes haU hf3
  have hm2 : mayR (U.1, v, U.2.2) = true := mayR_mk (mayR_of bm).1 ((lf_some hf3).2.1.may (mayR_of bm).2.1) (mayR_of bm).2.2
  have ha2 : asE (U.1, v, U.2.2) b = 0 := as_yes hm2 b8 b256 (by rw [vb]; decide)
  have hf4 : lfO U.1 v b = some s.2.1 := lf_back (n := n) sb hn hi vl al0 b256 vb sbz bc vo ac3
  obtain ⟨l7, l8⟩ := lv_yes (s := (U.1, v, U.2.2)) ha2 hf4
  refine ⟨a, b, e1, e2, hab, r1, r2, r3, r4, fun i hic => ?_, l5, by rw [l6]; exact l7, by rw [l6, l8], l1, by rw [l2]; exact l3, by rw [l2, l4]⟩
  have hib : i ≠ b := fun e => by rw [e] at hic; exact hic bc
  have hia : i ≠ a := fun e => by rw [e] at hic; exact hic ac
  rw [bc2 i hib, ac2 i hia]
  omega
/-- What is left, at every count. -/
theorem lv_less {s : Rm} {n : Int} (h : lvE s n = 0) : ∃ k : Nat, n = k ∧ mayR s = true ∧ mayR (lvV s n) = true ∧ 8 ≤ k ∧ k < 256 ∧ s.2.1[k]?.getD 0 ≠ 0 ∧ (lvV s n).1 = s.1 ∧ (lvV s n).2.2 = s.2.2 ∧ (lvV s n).2.1.length = 256 ∧ s.2.1.length = 256 ∧
    (∀ i : Nat, ((lvV s n).2.1[i]?.getD 0).toNat ≤ (s.2.1[i]?.getD 0).toNat) ∧ ((lvV s n).2.1[k]?.getD 0).toNat + 1 ≤ (s.2.1[k]?.getD 0).toNat ∧ (1 < (s.2.1[k]?.getD 0).toNat → (lvV s n).2.1 = s.2.1.set k (s.2.1[k]?.getD 0 - 1)) := by
  rcases lv_ways s n with ⟨h1, h2, _⟩ | ⟨k, _, _, _, _, _, _, _, h2, _⟩ | ⟨k, u, _, rfl, hm, h8, h256, hx, hf, _, hV⟩
  · exact absurd (h2.symm.trans h) h1
  · rw [h2] at h; cases h
  · obtain ⟨_, f2, f3, f4⟩ := lf_some hf
    have hl := mayT_len (mayR_of hm).2.1
    rw [hV]
    exact ⟨k, rfl, hm, mayR_mk (mayR_of hm).1 (f2.may (mayR_of hm).2.1) (mayR_of hm).2.2, h8, h256, hx, rfl, rfl, by rw [f2.len, hl], hl, f2.le, f3, f4⟩
/-- What is loosened. -/
theorem lo_ok {s : Rm} {n : Int} (h : asE s n = 0) : ∃ k : Nat, n = k ∧ mayR s = true ∧ mayR (loV s n) = true ∧ 8 ≤ k ∧ k < 256 ∧ s.2.1[k]?.getD 0 ≠ 0 ∧ s.2.1.length = 256 ∧ loV s n = (s.1, s.2.1.set k (s.2.1[k]?.getD 0 - 1), s.2.2) := by
  have h0 := h
  rcases as_ways s n with ⟨_, e⟩ | ⟨_, _, e⟩ | ⟨k, _, _, _, _, _, e⟩ | ⟨k, hm, rfl, h8, h256, hx, e⟩
  · rw [e] at h; cases h
  · rw [e] at h; cases h
  · rw [e] at h; cases h
  · have hV : loV s k = (s.1, s.2.1.set k (s.2.1[k]?.getD 0 - 1), s.2.2) := by rw [loV, if_pos h0]; rfl
    obtain ⟨m1, m2, m3⟩ := mayR_of hm
    exact ⟨k, rfl, hm, by rw [hV]; exact mayR_mk m1 (mayT_set m2 h8) m3, h8, h256, hx, mayT_len m2, hV⟩
/-- A share that is loosened. -/
theorem sh_loose {s : Rm} {n : Int} (h : shE s n = 0) : asE (shV s n) n = 0 ∧ loV (shV s n) n = s := by
  have hm' := sh_may h
  obtain ⟨k, rfl, hm, h8, h256, h0, h255, hl, hV⟩ := sh_ok h
  have hg : (shV s k).2.1[k]?.getD 0 = s.2.1[k]?.getD 0 + 1 := by rw [hV]; exact set_get (by omega)
  have ha : asE (shV s k) k = 0 := as_yes hm' h8 h256 (by rw [hg]; exact byte_up_ne h255)
  refine ⟨ha, ?_⟩
  rw [loV, if_pos ha, show ((k : Int)).toNat = k by omega, hg, hV]
  show (s.1, (s.2.1.set k (s.2.1[k]?.getD 0 + 1)).set k (s.2.1[k]?.getD 0 + 1 - 1), s.2.2) = s
  rw [byte_back.1, List.set_set, set_same (by omega)]
end Go.Proofs.YtmdlgnlfgfhkmaaGreat

/-
  What is left, as a stack that is gone through; plain. Conditions: those that each lemma states.
-/
namespace Go.Proofs.YtmdlgnlfgfhkmaaGreat
open Go.RowKit

/-- A reference that goes: the block, and of which level the node there has to be (-1: none is read; 6: any). -/
abbrev Rf := Int × Int
def Rfd (x : Rf) : Prop := 8 ≤ x.1 ∧ x.1 < 256 ∧ -1 ≤ x.2 ∧ x.2 ≤ 6
noncomputable def wkF (d : Dk) (lv : Int) (t : List UInt8) (a : Nat) : Option (List UInt8) := if lv = 6 then lfO d t a else lvF d (lv + 1).toNat t a
noncomputable def runT (d : Dk) : List UInt8 → List Rf → Option (List UInt8)
  | t, [] => some t
  | t, x :: l => (wkF d x.2 t x.1.toNat).bind fun u => runT d u l
theorem runT_app (d : Dk) : ∀ (a b : List Rf) (t : List UInt8), runT d t (a ++ b) = (runT d t a).bind fun u => runT d u b
  | [], b, t => rfl
  | x :: a, b, t => by
    simp only [List.cons_append, runT]
    cases wkF d x.2 t x.1.toNat with
    | none => rfl
    | some u => exact runT_app d a b u
/-- The references of items, in order. -/
def rfsL (lv : Int) (l : List It) : List Rf := (l.filter fun x => decide (x.2.1 ≠ 0)).map fun x => (x.2.1, lv)
def rfsT (n : Nd) : List Rf := rfsL (n.1 - 1) n.2
theorem rfsL_nil (lv : Int) : rfsL lv [] = [] := rfl
theorem rfsL_zero {lv : Int} {x : It} {l : List It} (h : x.2.1 = 0) : rfsL lv (x :: l) = rfsL lv l := by simp [rfsL, h]
theorem rfsL_more {lv : Int} {x : It} {l : List It} (h : x.2.1 ≠ 0) : rfsL lv (x :: l) = (x.2.1, lv) :: rfsL lv l := by simp [rfsL, h]
theorem rfsL_app (lv : Int) (a b : List It) : rfsL lv (a ++ b) = rfsL lv a ++ rfsL lv b := by simp [rfsL]
theorem rfsL_len (lv : Int) (l : List It) : (rfsL lv l).length ≤ l.length := by
  rw [rfsL, List.length_map]
  exact List.length_filter_le _ _
theorem rfsL_ok {lv : Int} (h1 : -1 ≤ lv) (h6 : lv ≤ 6) : ∀ {l : List It}, refsOk l → ∀ x ∈ rfsL lv l, Rfd x
  | [], _, x, hx => by simp [rfsL] at hx
  | y :: l, h, x, hx => by
    obtain ⟨r1, r2⟩ := refs_cons h
    rcases r1 with r1 | ⟨k, r1, r8, r256⟩
    · rw [rfsL_zero r1] at hx
      exact rfsL_ok h1 h6 r2 x hx
    · rw [rfsL_more (by omega)] at hx
      rcases List.mem_cons.1 hx with rfl | hx
      · exact ⟨by show 8 ≤ y.2.1; omega, by show y.2.1 < 256; omega, h1, h6⟩
      · exact rfsL_ok h1 h6 r2 x hx
theorem each_run (d : Dk) {k : Nat} (hk : k ≤ 6) : ∀ (l : List It) (t : List UInt8), eachO (lvF d k) t l = runT d t (rfsL ((k : Int) - 1) l)
  | [], t => rfl
  | x :: l, t => by
    unfold eachO
    by_cases h : x.2.1 = 0
    · rw [if_pos h, rfsL_zero h]
      exact each_run d hk l t
    · rw [if_neg h, rfsL_more h]
      have e : wkF d ((k : Int) - 1) t x.2.1.toNat = lvF d k t x.2.1.toNat := by
        rw [wkF, if_neg (by omega), show ((k : Int) - 1 + 1).toNat = k by omega]
      show (lvF d k t x.2.1.toNat).bind _ = (wkF d ((k : Int) - 1) t x.2.1.toNat).bind _
      rw [e]
      cases lvF d k t x.2.1.toNat with
      | none => rfl
      | some u => exact each_run d hk l u
theorem wk_none {d : Dk} {lv : Int} {t : List UInt8} {a : Nat} (h : t[a]?.getD 0 = 0) : wkF d lv t a = none := by
  have hd : dnO t a = none := by rw [dnO, if_pos h]
  unfold wkF
  split
  · rw [lfO, hd]; rfl
  · cases (lv + 1).toNat with
    | zero => exact hd
    | succ l =>
      show lvS d l (lvF d l) t a = none
      rw [lvS, hd]; rfl
theorem one_less {x : UInt8} (h : x ≠ 0) : x - 1 ≠ 0 ↔ 1 < x.toNat := by
  have h1 := dn_nat h
  refine ⟨fun e => ?_, fun e e0 => ?_⟩
  · have : (x - 1).toNat ≠ 0 := fun e' => e (nat_zero.1 e')
    omega
  · have := nat_zero.2 e0
    omega
/-- Whether it is read what is there. -/
def Rdn (d : Dk) (lv : Int) (a : Nat) : Prop := reN (seenD d a) = 0 ∧ (lv = 6 ∨ (reV (seenD d a)).1 = lv)
theorem wk_ways {d : Dk} {lv : Int} {t : List UInt8} {a : Nat} (h1 : -1 ≤ lv) (h6 : lv ≤ 6) (h : t[a]?.getD 0 ≠ 0) :
    ((t[a]?.getD 0 - 1 ≠ 0 ∨ lv = -1) ∧ wkF d lv t a = some (t.set a (t[a]?.getD 0 - 1))) ∨
    (t[a]?.getD 0 - 1 = 0 ∧ lv ≠ -1 ∧ ¬ Rdn d lv a ∧ wkF d lv t a = none) ∨
    (t[a]?.getD 0 - 1 = 0 ∧ lv ≠ -1 ∧ Rdn d lv a ∧ wkF d lv t a = runT d (t.set a (t[a]?.getD 0 - 1)) (rfsT (reV (seenD d a)))) := by
  have hd := dnO_yes h
  have hlow : reN (seenD d a) = 0 → 0 ≤ (reV (seenD d a)).1 ∧ (reV (seenD d a)).1 < 6 := fun hr => by
    obtain ⟨⟨s1, s2, _⟩, _⟩ := mayN_of (blkN_read hr).1
    exact ⟨s1, s2⟩
  by_cases hc : t[a]?.getD 0 - 1 = 0
  case neg =>
    refine .inl ⟨.inl hc, ?_⟩
    have hm := (one_less h).1 hc
    unfold wkF
    split
    · rw [lfO, hd]
      show (if 1 < (t[a]?.getD 0).toNat then _ else _) = _
      rw [if_pos hm]
    · exact lvF_many d _ t a hm
  have hm : ¬ 1 < (t[a]?.getD 0).toNat := fun e => (one_less h).2 e hc
  by_cases hl : lv = -1
  · refine .inl ⟨.inr hl, ?_⟩
    subst hl
    exact hd
  right
  by_cases h0 : lv = 6
  · subst h0
    have e : wkF d 6 t a = if reN (seenD d a) = 0 then eachO (lvF d (reV (seenD d a)).1.toNat) (t.set a (t[a]?.getD 0 - 1)) (reV (seenD d a)).2 else none := by
      rw [wkF, if_pos rfl, lfO, hd]
      show (if 1 < (t[a]?.getD 0).toNat then _ else _) = _
      rw [if_neg hm]
    by_cases hr : reN (seenD d a) = 0
    · refine .inr ⟨hc, by decide, ⟨hr, .inl rfl⟩, ?_⟩
      have hq := hlow hr
      rw [e, if_pos hr, each_run d (by omega), rfsT, show (((reV (seenD d a)).1.toNat : Nat) : Int) = (reV (seenD d a)).1 by omega]
    · exact .inl ⟨hc, by decide, fun h => hr h.1, by rw [e, if_neg hr]⟩
  · obtain ⟨l, rfl⟩ : ∃ l : Nat, lv = l := ⟨lv.toNat, by omega⟩
    have e : wkF d l t a = if reN (seenD d a) = 0 ∧ (reV (seenD d a)).1 = (l : Int) then eachO (lvF d l) (t.set a (t[a]?.getD 0 - 1)) (reV (seenD d a)).2 else none := by
      rw [wkF, if_neg h0, show ((l : Int) + 1).toNat = l + 1 by omega]
      show lvS d l (lvF d l) t a = _
      rw [lvS, hd]
      show (if 1 < (t[a]?.getD 0).toNat then _ else _) = _
      rw [if_neg hm]
    by_cases hr : reN (seenD d a) = 0 ∧ (reV (seenD d a)).1 = (l : Int)
    · refine .inr ⟨hc, hl, ⟨hr.1, .inr hr.2⟩, ?_⟩
      rw [e, if_pos hr, each_run d (by omega), rfsT, hr.2]
    · exact .inl ⟨hc, hl, fun h => hr ⟨h.1, h.2.resolve_left h0⟩, by rw [e, if_neg hr]⟩

/-! ### How much is counted in all -/
def allT (t : List UInt8) : Nat := (t.map (·.toNat)).sum
theorem allT_le : ∀ t : List UInt8, allT t ≤ 255 * t.length
  | [] => by simp [allT]
  | x :: t => by
    have h1 := allT_le t
    have h2 := x.toNat_lt
    simp only [allT, List.map_cons, List.sum_cons, List.length_cons] at h1 ⊢
    omega
theorem allT_dn : ∀ {t : List UInt8} {a : Nat}, t[a]?.getD 0 ≠ 0 → allT (t.set a (t[a]?.getD 0 - 1)) + 1 = allT t
  | [], a, h => absurd (by simp) h
  | x :: t, 0, h => by
    have h' : x ≠ 0 := by simpa using h
    have := dn_nat h'
    simp only [List.set_cons_zero, allT, List.map_cons, List.sum_cons, List.getElem?_cons_zero, Option.getD_some]
    omega
  | x :: t, a + 1, h => by
    have h' : t[a]?.getD 0 ≠ 0 := by simpa using h
    have := allT_dn h'
    simp only [List.set_cons_succ, allT, List.map_cons, List.sum_cons, List.getElem?_cons_succ] at this ⊢
    omega
end Go.Proofs.YtmdlgnlfgfhkmaaGreat

/-
  Layer 8: package room's Twin, and the document's. Conditions: those that each lemma states.
-/
namespace Go.Proofs.YtmdlgnlfgfhkmaaGreat
open Go.RowKit

def SmallR (s : Rm) : Prop := Small s.1 ∧ s.2.1.length ≤ 10000 ∧ s.2.2.length ≤ 10000
theorem smallR_of_great {s : Rm} (h : greatR s = false) : SmallR s := by
  obtain ⟨h1, h2, h3⟩ := greatR_of h
  exact ⟨small_of_great h1, h2, h3⟩
theorem smallR_may {s : Rm} (h : mayR s = true) : SmallR s := by
  obtain ⟨h1, h2, h3⟩ := mayR_of h
  exact ⟨small_of_may h1, by rw [mayT_len h2]; omega, by rw [mayT_len h3]; omega⟩
theorem smallR_empty : SmallR emptyR := by
  refine ⟨small_of_great ?_, by simp [emptyR], by simp [emptyR]⟩
  rfl

/-- What stands in a box that is filled last. -/
theorem sto_fin {lo : Nat} {w1 W W9 : World} {P Q N L : Value} {s : Rm} {g : Nat} (hd : Dsk (New w1.heap.size W) W (.agg #[P, Q]) s.1) (hn : rBy (New w1.heap.size W) W [N] s.2.1) (hl : rBy (New w1.heap.size W) W [L] s.2.2) (hg : g < w1.heap.size) (hlo : lo ≤ w1.heap.size) (gr : W.grownBy W9 (some g)) : Sto (New lo W9) W9 (.agg #[P, Q, N, L]) s :=
  Sto.mk ((hd.grown gr (fun q e => by cases e; exact hg)).new hlo (Below.refl _ _)) (stab_by.new (stab_by.grown hn gr (fun q e => by cases e; exact hg)) hlo (Below.refl _ _)) (stab_by.new (stab_by.grown hl gr (fun q e => by cases e; exact hg)) hlo (Below.refl _ _))

set_option maxRecDepth 100000 in
set_option maxHeartbeats 4000000 in
theorem twinR_any (v : Value) (s : Rm) (hsm : SmallR s) (w : World) (h : Sto (Old w) w v s) :
    Calls Tryz.prog 47 #[v] w fun e w' => ∃ A ca B cb N cn L cl, e = .returned (.agg #[.slice A s.1.1.length ca, .slice B s.1.2.length cb, .slice N s.2.1.length cn, .slice L s.2.2.length cl]) ∧ Sto (New w.heap.size w') w' (.agg #[.slice A s.1.1.length ca, .slice B s.1.2.length cb, .slice N s.2.1.length cn, .slice L s.2.2.length cl]) s ∧ Below w.heap.size w w' := by
  obtain ⟨A, ca, B, cb, N, cn, L, cl, w1, rfl, hw1, f1, f2, hsz, hB, H⟩ := box_sto2 h
  clear h
  obtain ⟨m0, m1, m2, m3, _, mg⟩ := four_cells f1
  replace hsz := Lib.hid hsz
  replace f1 := Lib.hid f1
  replace f2 := Lib.hid f2
  replace hsm := Lib.hid hsm
  go_enter Tryz.func47, Tryz.ntmps47
  go_upto_region 1 with fail
  clear hw1
  refine wp_region_tails (by kernel_rfl) 10 (fun W => Below w1.heap.size w1 W) (fun i => match i with
      | 2 => some (fun v W => Dsk (New w1.heap.size W) W v s.1)
      | 5 => some (fun v W => rBy (New w1.heap.size W) W [v] s.2.1)
      | 8 => some (fun v W => rBy (New w1.heap.size W) W [v] s.2.2)
      | 9 => some (fun v W => ∃ P p Q r Y y X x, v = .agg #[.slice P s.1.1.length p, .slice Q s.1.2.length r, .slice Y s.2.1.length y, .slice X s.2.2.length x] ∧ Dsk (New w1.heap.size W) W (.agg #[.slice P s.1.1.length p, .slice Q s.1.2.length r]) s.1 ∧ rBy (New w1.heap.size W) W [.slice Y s.2.1.length y] s.2.1 ∧ rBy (New w1.heap.size W) W [.slice X s.2.2.length x] s.2.2)
      | _ => none) (fun _ => none) (by decide) (by kernel_rfl) (by kernel_rfl) (Below.refl _ _).drew (fun w w' h hb => h.trans (hb.mono h.size)) ?tst ?_
  case tst =>
    intro j φ x W W' hp hx hb
    match j, hp with
    | 2, hp => cases hp; exact hx.new (Nat.le_refl _) hb
    | 5, hp => cases hp; exact stab_by.new hx (Nat.le_refl _) hb
    | 8, hp => cases hp; exact stab_by.new hx (Nat.le_refl _) hb
    | 9, hp =>
      cases hp
      obtain ⟨P, p, Q, r, Y, y, X, x, e1, e2, e3, e4⟩ := hx
      exact ⟨P, p, Q, r, Y, y, X, x, e1, e2.new (Nat.le_refl _) hb, stab_by.new e3 (Nat.le_refl _) hb, stab_by.new e4 (Nat.le_refl _) hb⟩
  simp only [List.take_succ_cons, List.take_zero, List.drop_succ_cons, List.drop_zero]
  repeat (first
    | (refine wpAs_skip rfl ?_; simp only [Act.put, List.setIfInBounds_toArray, List.set_cons_zero, List.set_cons_succ])
    | (refine wpAs_pure (v := ?_) rfl rfl ?_ ?_; rotate_left; (intro W hC hE; clear hE; (have z0 := (hC.cell (p := ⟨w.heap.size, 0, none⟩) mg).trans m0; have z1 := (hC.cell (p := ⟨w.heap.size, 1, none⟩) mg).trans m1); clear hC; go_simp; done); simp only [Act.put, List.setIfInBounds_toArray, List.set_cons_zero, List.set_cons_succ])
    | (refine wpAs_pure (v := ?_) rfl rfl ?_ ?_; rotate_left; (intro W hC hE; clear hE; (have z0 := (hC.cell (p := ⟨w.heap.size, 0, none⟩) mg).trans m0; have z1 := (hC.cell (p := ⟨w.heap.size, 1, none⟩) mg).trans m1); clear hC; go_simp; with_reducible rfl); simp only [Act.put, List.setIfInBounds_toArray, List.set_cons_zero, List.set_cons_succ]))
  refine wpAs_act rfl rfl ?_ ?_
  · intro W hC hE
    clear hE
    refine does_enter (f := 59) (args := #[.agg #[.slice A s.1.1.length ca, .slice B s.1.2.length cb]]) ?_ ?_
    · go_simp
    · refine (twin_any _ s.1 W hsm.out.1 (H.out.below hC).parts.1).mono ?_
      rintro e W' ⟨u, rfl, hu, hb⟩
      exact ⟨_, rfl, hu.new hC.size (Below.refl _ _), hb⟩
  simp only [Act.put, List.setIfInBounds_toArray, List.set_cons_zero, List.set_cons_succ, envAdd]
  intro x5
  repeat (first
    | (refine wpAs_skip rfl ?_; simp only [Act.put, List.setIfInBounds_toArray, List.set_cons_zero, List.set_cons_succ])
    | (refine wpAs_pure (v := ?_) rfl rfl ?_ ?_; rotate_left; (intro W hC hE; clear hE; (have z2 := (hC.cell (p := ⟨w.heap.size, 2, none⟩) mg).trans m2); clear hC; go_simp; done); simp only [Act.put, List.setIfInBounds_toArray, List.set_cons_zero, List.set_cons_succ])
    | (refine wpAs_pure (v := ?_) rfl rfl ?_ ?_; rotate_left; (intro W hC hE; clear hE; (have z2 := (hC.cell (p := ⟨w.heap.size, 2, none⟩) mg).trans m2); clear hC; go_simp; with_reducible rfl); simp only [Act.put, List.setIfInBounds_toArray, List.set_cons_zero, List.set_cons_succ]))
  refine wpAs_act rfl rfl ?_ ?_
  · intro W hC hE
    clear hE
    refine does_enter (f := 19) (args := #[.slice N s.2.1.length cn]) ?_ ?_
    · go_simp
    · refine (clone_by _ s.2.1 W (by have := hsm.out.2.1; omega) (H.out.below hC).parts.2.1).mono ?_
      rintro e W' ⟨u, rfl, ho, hb⟩
      exact ⟨_, rfl, stab_by.new ho hC.size (Below.refl _ _), hb⟩
  simp only [Act.put, List.setIfInBounds_toArray, List.set_cons_zero, List.set_cons_succ, envAdd]
  intro x8
  repeat (first
    | (refine wpAs_skip rfl ?_; simp only [Act.put, List.setIfInBounds_toArray, List.set_cons_zero, List.set_cons_succ])
    | (refine wpAs_pure (v := ?_) rfl rfl ?_ ?_; rotate_left; (intro W hC hE; clear hE; (have z3 := (hC.cell (p := ⟨w.heap.size, 3, none⟩) mg).trans m3); clear hC; go_simp; done); simp only [Act.put, List.setIfInBounds_toArray, List.set_cons_zero, List.set_cons_succ])
    | (refine wpAs_pure (v := ?_) rfl rfl ?_ ?_; rotate_left; (intro W hC hE; clear hE; (have z3 := (hC.cell (p := ⟨w.heap.size, 3, none⟩) mg).trans m3); clear hC; go_simp; with_reducible rfl); simp only [Act.put, List.setIfInBounds_toArray, List.set_cons_zero, List.set_cons_succ]))
  refine wpAs_act rfl rfl ?_ ?_
  · intro W hC hE
    clear hE
    refine does_enter (f := 19) (args := #[.slice L s.2.2.length cl]) ?_ ?_
    · go_simp
    · refine (clone_by _ s.2.2 W (by have := hsm.out.2.2; omega) (H.out.below hC).parts.2.2).mono ?_
      rintro e W' ⟨u, rfl, ho, hb⟩
      exact ⟨_, rfl, stab_by.new ho hC.size (Below.refl _ _), hb⟩
  simp only [Act.put, List.setIfInBounds_toArray, List.set_cons_zero, List.set_cons_succ, envAdd]
  intro x11
  refine wpAs_act rfl rfl ?_ ?_
  · intro W hC hE
    have h11 := hE.1 rfl
    have h8 := hE.2.1 rfl
    have h5 := hE.2.2.1 rfl
    obtain ⟨X, x, rfl, _⟩ := rBy_open h11
    obtain ⟨Y, y, rfl, _⟩ := rBy_open h8
    obtain ⟨P, p, Q, r, rfl, _⟩ := h5.open
    have h11' := Lib.hid h11
    have h8' := Lib.hid h8
    have h5' := Lib.hid h5
    clear hE hC h11 h8 h5
    go_simp
    exact ⟨⟨P, p, Q, r, Y, y, X, x, rfl, h5'.out, h8'.out, h11'.out⟩, Below.refl _ _⟩
  simp only [Act.put, List.setIfInBounds_toArray, List.set_cons_zero, List.set_cons_succ, envAdd]
  intro x12
  refine wpAs_end fun W hC hE => ?_
  obtain ⟨⟨P, p, Q, r, Y, y, X, x, rfl, hd, hn, hl⟩, _⟩ := hE
  have bW := (hC.block (w.heap.size + 1) (by rw [hsz.out]; omega)).trans f2.out
  obtain ⟨c0, c1, c2, c3, c4, c5⟩ := four_cells bW
  obtain ⟨W9, hW9, g9, gr9, gs9⟩ := put_four (a' := .slice P s.1.1.length p) (b' := .slice Q s.1.2.length r) (c' := .slice Y s.2.1.length y) (d' := .slice X s.2.2.length x) bW
  obtain ⟨n0, n1, n2, n3, _, _⟩ := four_cells g9
  have BW := hB.trans (hC.mono hB.size)
  have hfin := Lib.hid (sto_fin (lo := w.heap.size) hd hn hl (by rw [hsz.out]; omega) hB.size gr9)
  have hB9 := Lib.hid (BW.grown gr9 BW.size (fun q e => by cases e; omega))
  clear hd hn hl gr9 gs9 BW hC
  replace bW := Lib.hid bW
  replace g9 := Lib.hid g9
  go_wp2_with fail
  refine bodyPost_ret (v := .agg #[.slice P s.1.1.length p, .slice Q s.1.2.length r, .slice Y s.2.1.length y, .slice X s.2.2.length x]) (by simp [results, Tryz.results47, go_sem, n0, n1, n2, n3]) rfl ?_
  exact ⟨_, _, _, _, _, _, _, _, rfl, hfin.out, hB9.out⟩
set_option maxRecDepth 100000 in
set_option maxHeartbeats 4000000 in
theorem refTwinR_any (v : Value) (s : Rm) (hsm : SmallR s) (w : World) (h : Sto (Old w) w v s) :
    Calls Tryz.prog 6 #[v] w fun e w' => ∃ A ca B cb N cn L cl, e = .returned (.agg #[.slice A s.1.1.length ca, .slice B s.1.2.length cb, .slice N s.2.1.length cn, .slice L s.2.2.length cl]) ∧ Sto (New w.heap.size w') w' (.agg #[.slice A s.1.1.length ca, .slice B s.1.2.length cb, .slice N s.2.1.length cn, .slice L s.2.2.length cl]) s ∧ Below w.heap.size w w' := by
  obtain ⟨A, ca, B, cb, N, cn, L, cl, w1, rfl, hw1, f1, f2, hsz, hB, H⟩ := box_sto2 h
  clear h
  obtain ⟨m0, m1, m2, m3, _, mg⟩ := four_cells f1
  replace hsz := Lib.hid hsz
  replace f1 := Lib.hid f1
  replace f2 := Lib.hid f2
  replace hsm := Lib.hid hsm
  go_enter Tryz.func6, Tryz.ntmps6
  go_upto_region 1 with fail
  clear hw1
  refine wp_region_tails (by kernel_rfl) 10 (fun W => Below w1.heap.size w1 W) (fun i => match i with
      | 2 => some (fun v W => Dsk (New w1.heap.size W) W v s.1)
      | 5 => some (fun v W => rBy (New w1.heap.size W) W [v] s.2.1)
      | 8 => some (fun v W => rBy (New w1.heap.size W) W [v] s.2.2)
      | 9 => some (fun v W => ∃ P p Q r Y y X x, v = .agg #[.slice P s.1.1.length p, .slice Q s.1.2.length r, .slice Y s.2.1.length y, .slice X s.2.2.length x] ∧ Dsk (New w1.heap.size W) W (.agg #[.slice P s.1.1.length p, .slice Q s.1.2.length r]) s.1 ∧ rBy (New w1.heap.size W) W [.slice Y s.2.1.length y] s.2.1 ∧ rBy (New w1.heap.size W) W [.slice X s.2.2.length x] s.2.2)
      | _ => none) (fun _ => none) (by decide) (by kernel_rfl) (by kernel_rfl) (Below.refl _ _).drew (fun w w' h hb => h.trans (hb.mono h.size)) ?tst ?_
  case tst =>
    intro j φ x W W' hp hx hb
    match j, hp with
    | 2, hp => cases hp; exact hx.new (Nat.le_refl _) hb
    | 5, hp => cases hp; exact stab_by.new hx (Nat.le_refl _) hb
    | 8, hp => cases hp; exact stab_by.new hx (Nat.le_refl _) hb
    | 9, hp =>
      cases hp
      obtain ⟨P, p, Q, r, Y, y, X, x, e1, e2, e3, e4⟩ := hx
      exact ⟨P, p, Q, r, Y, y, X, x, e1, e2.new (Nat.le_refl _) hb, stab_by.new e3 (Nat.le_refl _) hb, stab_by.new e4 (Nat.le_refl _) hb⟩
  simp only [List.take_succ_cons, List.take_zero, List.drop_succ_cons, List.drop_zero]
  repeat (first
    | (refine wpAs_skip rfl ?_; simp only [Act.put, List.setIfInBounds_toArray, List.set_cons_zero, List.set_cons_succ])
    | (refine wpAs_pure (v := ?_) rfl rfl ?_ ?_; rotate_left; (intro W hC hE; clear hE; (have z0 := (hC.cell (p := ⟨w.heap.size, 0, none⟩) mg).trans m0; have z1 := (hC.cell (p := ⟨w.heap.size, 1, none⟩) mg).trans m1); clear hC; go_simp; done); simp only [Act.put, List.setIfInBounds_toArray, List.set_cons_zero, List.set_cons_succ])
    | (refine wpAs_pure (v := ?_) rfl rfl ?_ ?_; rotate_left; (intro W hC hE; clear hE; (have z0 := (hC.cell (p := ⟨w.heap.size, 0, none⟩) mg).trans m0; have z1 := (hC.cell (p := ⟨w.heap.size, 1, none⟩) mg).trans m1); clear hC; go_simp; with_reducible rfl); simp only [Act.put, List.setIfInBounds_toArray, List.set_cons_zero, List.set_cons_succ]))
  refine wpAs_act rfl rfl ?_ ?_
  · intro W hC hE
    clear hE
    refine does_enter (f := 16) (args := #[.agg #[.slice A s.1.1.length ca, .slice B s.1.2.length cb]]) ?_ ?_
    · go_simp
    · refine (refTwin_any _ s.1 W hsm.out.1 (H.out.below hC).parts.1).mono ?_
      rintro e W' ⟨u, rfl, hu, hb⟩
      exact ⟨_, rfl, hu.new hC.size (Below.refl _ _), hb⟩
  simp only [Act.put, List.setIfInBounds_toArray, List.set_cons_zero, List.set_cons_succ, envAdd]
  intro x5
  repeat (first
    | (refine wpAs_skip rfl ?_; simp only [Act.put, List.setIfInBounds_toArray, List.set_cons_zero, List.set_cons_succ])
    | (refine wpAs_pure (v := ?_) rfl rfl ?_ ?_; rotate_left; (intro W hC hE; clear hE; (have z2 := (hC.cell (p := ⟨w.heap.size, 2, none⟩) mg).trans m2); clear hC; go_simp; done); simp only [Act.put, List.setIfInBounds_toArray, List.set_cons_zero, List.set_cons_succ])
    | (refine wpAs_pure (v := ?_) rfl rfl ?_ ?_; rotate_left; (intro W hC hE; clear hE; (have z2 := (hC.cell (p := ⟨w.heap.size, 2, none⟩) mg).trans m2); clear hC; go_simp; with_reducible rfl); simp only [Act.put, List.setIfInBounds_toArray, List.set_cons_zero, List.set_cons_succ]))
  refine wpAs_act rfl rfl ?_ ?_
  · intro W hC hE
    clear hE
    obtain ⟨v', W', hr, hy, hb⟩ := app_copy (.slice N s.2.1.length cn) s.2.1 W (by have := hsm.out.2.1; omega) (H.out.below hC).parts.2.1
    exact does_append _ _ _ rfl rfl rfl hr ⟨stab_by.new hy hC.size (Below.refl _ _), hb⟩
  simp only [Act.put, List.setIfInBounds_toArray, List.set_cons_zero, List.set_cons_succ, envAdd]
  intro x8
  repeat (first
    | (refine wpAs_skip rfl ?_; simp only [Act.put, List.setIfInBounds_toArray, List.set_cons_zero, List.set_cons_succ])
    | (refine wpAs_pure (v := ?_) rfl rfl ?_ ?_; rotate_left; (intro W hC hE; clear hE; (have z3 := (hC.cell (p := ⟨w.heap.size, 3, none⟩) mg).trans m3); clear hC; go_simp; done); simp only [Act.put, List.setIfInBounds_toArray, List.set_cons_zero, List.set_cons_succ])
    | (refine wpAs_pure (v := ?_) rfl rfl ?_ ?_; rotate_left; (intro W hC hE; clear hE; (have z3 := (hC.cell (p := ⟨w.heap.size, 3, none⟩) mg).trans m3); clear hC; go_simp; with_reducible rfl); simp only [Act.put, List.setIfInBounds_toArray, List.set_cons_zero, List.set_cons_succ]))
  refine wpAs_act rfl rfl ?_ ?_
  · intro W hC hE
    clear hE
    obtain ⟨v', W', hr, hy, hb⟩ := app_copy (.slice L s.2.2.length cl) s.2.2 W (by have := hsm.out.2.2; omega) (H.out.below hC).parts.2.2
    exact does_append _ _ _ rfl rfl rfl hr ⟨stab_by.new hy hC.size (Below.refl _ _), hb⟩
  simp only [Act.put, List.setIfInBounds_toArray, List.set_cons_zero, List.set_cons_succ, envAdd]
  intro x11
  refine wpAs_act rfl rfl ?_ ?_
  · intro W hC hE
    have h11 := hE.1 rfl
    have h8 := hE.2.1 rfl
    have h5 := hE.2.2.1 rfl
    obtain ⟨X, x, rfl, _⟩ := rBy_open h11
    obtain ⟨Y, y, rfl, _⟩ := rBy_open h8
    obtain ⟨P, p, Q, r, rfl, _⟩ := h5.open
    have h11' := Lib.hid h11
    have h8' := Lib.hid h8
    have h5' := Lib.hid h5
    clear hE hC h11 h8 h5
    go_simp
    exact ⟨⟨P, p, Q, r, Y, y, X, x, rfl, h5'.out, h8'.out, h11'.out⟩, Below.refl _ _⟩
  simp only [Act.put, List.setIfInBounds_toArray, List.set_cons_zero, List.set_cons_succ, envAdd]
  intro x12
  refine wpAs_end fun W hC hE => ?_
  obtain ⟨⟨P, p, Q, r, Y, y, X, x, rfl, hd, hn, hl⟩, _⟩ := hE
  have bW := (hC.block (w.heap.size + 1) (by rw [hsz.out]; omega)).trans f2.out
  obtain ⟨c0, c1, c2, c3, c4, c5⟩ := four_cells bW
  obtain ⟨W9, hW9, g9, gr9, gs9⟩ := put_four (a' := .slice P s.1.1.length p) (b' := .slice Q s.1.2.length r) (c' := .slice Y s.2.1.length y) (d' := .slice X s.2.2.length x) bW
  obtain ⟨n0, n1, n2, n3, _, _⟩ := four_cells g9
  have BW := hB.trans (hC.mono hB.size)
  have hfin := Lib.hid (sto_fin (lo := w.heap.size) hd hn hl (by rw [hsz.out]; omega) hB.size gr9)
  have hB9 := Lib.hid (BW.grown gr9 BW.size (fun q e => by cases e; omega))
  clear hd hn hl gr9 gs9 BW hC
  replace bW := Lib.hid bW
  replace g9 := Lib.hid g9
  go_wp2_with fail
  refine bodyPost_ret (v := .agg #[.slice P s.1.1.length p, .slice Q s.1.2.length r, .slice Y s.2.1.length y, .slice X s.2.2.length x]) (by simp [results, Tryz.results6, go_sem, n0, n1, n2, n3]) rfl ?_
  exact ⟨_, _, _, _, _, _, _, _, rfl, hfin.out, hB9.out⟩
end Go.Proofs.YtmdlgnlfgfhkmaaGreat

/-
  Package drop: checkHeld, read. Conditions: those that each lemma states.
-/
namespace Go.Proofs.YtmdlgnlfgfhkmaaGreat
open Go.RowKit

set_option maxRecDepth 100000 in
set_option maxHeartbeats 4000000 in
theorem heldD_any (v : Value) (s : Rm) (n : Int) (w : World) (h : Sto (Old w) w v s) : Calls Tryz.prog 45 #[v, .int .i64 n] w fun e w' => e = .returned (.int .i64 (asE s n)) ∧ Below w.heap.size w w' := by
  obtain ⟨A, ca, B, cb, N, cn, L, cl, w1, rfl, hw1, f, hsz, hB, _, NN, _⟩ := box_sto h
  have H := Lib.hid (h.below hB)
  clear h
  obtain ⟨k0, k1, k2, k3, _, kg⟩ := four_cells f
  replace hsz := Lib.hid hsz
  rcases as_ways s n with ⟨hm, he⟩ | ⟨hm, hn, he⟩ | ⟨k, hm, rfl, h8, h256, hx, he⟩ | ⟨k, hm, rfl, h8, h256, hx, he⟩
  · replace he := Lib.hid he
    have e1 := chkR_bad hm
    go_enter Tryz.func45, Tryz.ntmps45
    go_upto_region 1 with fail
    clear hw1
    go_wp2_with fail
    with_reducible refine (checkR_any _ s _ H.out).mono ?_
    rintro e w2 ⟨rfl, hb2⟩
    rw [e1]
    replace hb2 := Lib.hid (hB.trans (hb2.mono hB.size))
    go_wp2_with fail
    go_ret
    exact ⟨ret_int he.out.symm, hb2.out⟩
  · replace he := Lib.hid he
    have e1 := chkR_ok hm
    by_cases h8 : n < 8
    · clear hn
      go_enter Tryz.func45, Tryz.ntmps45
      go_upto_region 1 with fail
      clear hw1
      go_wp2_with fail
      with_reducible refine (checkR_any _ s _ H.out).mono ?_
      rintro e w2 ⟨rfl, hb2⟩
      rw [e1]
      replace hb2 := Lib.hid (hB.trans (hb2.mono hB.size))
      go_wp2_with fail
      go_ret
      exact ⟨ret_int he.out.symm, hb2.out⟩
    · have h9 : 256 ≤ n := by omega
      clear hn
      go_enter Tryz.func45, Tryz.ntmps45
      go_upto_region 1 with fail
      clear hw1
      go_wp2_with fail
      with_reducible refine (checkR_any _ s _ H.out).mono ?_
      rintro e w2 ⟨rfl, hb2⟩
      rw [e1]
      replace hb2 := Lib.hid (hB.trans (hb2.mono hB.size))
      go_wp2_with fail
      go_ret
      exact ⟨ret_int he.out.symm, hb2.out⟩
  all_goals
    replace he := Lib.hid he
    have e1 := chkR_ok hm
    have hlen := mayT_len (mayR_of hm).2.1
    obtain ⟨A', c', e2, l1, m1, hby⟩ := rBy_byt (B := w1.heap.size) (fun _ h => h) NN.out
    cases e2
    obtain ⟨ad, rfl, hbk, hc⟩ := hby (by omega)
    have hcell := hc k (by omega)
    replace hbk : (ad.add k).block < w1.heap.size := by rw [add_block]; exact hbk
    obtain ⟨x, hx2⟩ : ∃ x, s.2.1[k]?.getD 0 = x := ⟨_, rfl⟩
    rw [hx2] at hcell hx
    have hlt : k < s.2.1.length := by omega
    first
      | have t0 := byte_same (y := 0) (q := 0) rfl hx
      | have t0 := byte_unlike (y := 0) (q := 0) rfl hx
    have i1 : ¬ (k : Int) < 8 := by omega
    have i2 : ¬ 256 ≤ (k : Int) := by omega
    replace hx2 := Lib.hid hx2
    replace hx := Lib.hid hx
    replace hlen := Lib.hid hlen
    clear hc hby
    go_enter Tryz.func45, Tryz.ntmps45
    go_upto_region 1 with fail
    clear hw1
    go_wp2_with fail
    with_reducible refine (checkR_any _ s _ H.out).mono ?_
    rintro e w2 ⟨rfl, hb2⟩
    rw [e1]
    replace k2 := (hb2.cell (p := ⟨w.heap.size, 2, none⟩) kg).trans k2
    replace hcell := (hb2.cell hbk).trans hcell
    replace hb2 := Lib.hid (hB.trans (hb2.mono hB.size))
    go_wp2_with fail
    go_ret
    exact ⟨ret_int he.out.symm, hb2.out⟩

theorem box_rd (w : World) (a b c d e f : Value) : ∃ w1, ((w.alloc (.cells #[a, b, c, d] 28)).alloc (.cells #[e, f] 63)).alloc (.cells #[.int .i64 0, .slice none 0 0] 31) = w1 ∧
    w1.heap[w.heap.size]? = some (.cells #[a, b, c, d] 28 (0, 0)) ∧ w1.heap[w.heap.size + 1]? = some (.cells #[e, f] 63 (0, 0)) ∧ w1.heap[w.heap.size + 2]? = some (.cells #[.int .i64 0, .slice none 0 0] 31 (0, 0)) ∧ w1.heap.size = w.heap.size + 3 ∧ Below w.heap.size w w1 := by
  refine ⟨_, rfl, alloc_block (alloc_block (heap_alloc_new _ _)), alloc_block ?_, ?_, by simp, (((Below.refl _ w).alloc (Nat.le_refl _) _).alloc (by simp) _).alloc (by simp; omega) _⟩
  · have := heap_alloc_new (w.alloc (.cells #[a, b, c, d] 28)) (.cells #[e, f] 63)
    rwa [World.size_alloc] at this
  · have := heap_alloc_new ((w.alloc (.cells #[a, b, c, d] 28)).alloc (.cells #[e, f] 63)) (.cells #[.int .i64 0, .slice none 0 0] 31)
    rwa [World.size_alloc, World.size_alloc] at this

/-- What read tells. -/
def RdP (s : Rm) (k : Nat) (lv : Int) (w w' : World) (e : Ending) : Prop := ∃ (u : Value) (q : Int) (nd : Nd), e = .returned (.tuple #[u, .int .i64 q]) ∧ ((Rdn s.1 lv k ∧ q = 0 ∧ nd = reV (seenD s.1 k)) ∨ (¬ Rdn s.1 lv k ∧ q = 8 ∧ nd = zeroN)) ∧ Nod (New w.heap.size w') w' u nd ∧ Below w.heap.size w w'

set_option maxRecDepth 100000 in
set_option maxHeartbeats 4000000 in
theorem readD_any (v : Value) (s : Rm) (k : Nat) (lv : Int) (ha : asE s k = 0) (w : World) (h : Sto (Old w) w v s) :
    Calls Tryz.prog 65 #[v, .agg #[.int .i64 k, .int .i64 lv]] w fun e w' => RdP s k lv w w' e := by
  obtain ⟨A, ca, B, cb, N, cn, L, cl, rfl, _, _, _⟩ := h.open
  obtain ⟨w1, hw1, f1, f2, f3, hsz, hB⟩ := box_rd w (.slice A s.1.1.length ca) (.slice B s.1.2.length cb) (.slice N s.2.1.length cn) (.slice L s.2.2.length cl) (.int .i64 k) (.int .i64 lv)
  have H := Lib.hid (h.below hB)
  clear h
  obtain ⟨k0, k1, k2, k3, _, kg⟩ := four_cells f1
  obtain ⟨j0, j1, _, jg⟩ := two_cells f2
  obtain ⟨k', e', _, _, _, _, _, hE, hV, -⟩ := as_read ha
  have hkk : k' = k := by omega
  subst hkk
  clear e'
  obtain ⟨b, hb⟩ : ∃ b, seenD s.1 k' = b := ⟨_, rfl⟩
  rw [hb] at hE hV
  obtain ⟨q, hq⟩ : ∃ q, reN b = q := ⟨_, rfl⟩
  obtain ⟨nd, hnd⟩ : ∃ nd, reV b = nd := ⟨_, rfl⟩
  rw [hq] at hE
  rw [hnd] at hV
  obtain ⟨lw, hlw⟩ : ∃ q, nd.1 = q := ⟨_, rfl⟩
  have hR : Hid (Rdn s.1 lv k' ↔ (q = 0 ∧ (lv = 6 ∨ lw = lv))) := Lib.hid (by unfold Rdn; rw [hb, hq, hnd, hlw])
  have hND : Hid (nd = reV (seenD s.1 k')) := Lib.hid (by rw [hb, hnd])
  replace hsz := Lib.hid hsz
  replace f3 := Lib.hid f3
  replace hb := Lib.hid hb
  replace hq := Lib.hid hq
  replace hnd := Lib.hid hnd
  replace hE := Lib.hid hE
  replace hV := Lib.hid hV
  clear f1 ha
  go_enter Tryz.func65, Tryz.ntmps65
  go_upto_region 1 with fail
  clear hw1
  go_wp2_with fail
  with_reducible refine (nodeR_any _ s (k' : Int) _ H.out).mono ?_
  rintro e w2 ⟨u, rfl, hu, hb2⟩
  rw [hE.out]
  rw [hV.out] at hu
  obtain ⟨P, pc, rfl, _⟩ := id hu.open
  rw [hlw]
  obtain ⟨w3, hw3, g3, hs3, hb3⟩ := box_pair' w2 (.int .i64 lw) (.slice P nd.2.length pc) 31
  have F3 := (hb3.block (w.heap.size + 2) (by have := hb2.size; have := hsz.out; omega)).trans ((hb2.block (w.heap.size + 2) (by have := hsz.out; omega)).trans f3.out)
  have G2 := (hb3.block (w.heap.size + 1) (by have := hb2.size; have := hsz.out; omega)).trans ((hb2.block (w.heap.size + 1) (by have := hsz.out; omega)).trans f2)
  obtain ⟨m0, m1, _, _⟩ := two_cells g3
  obtain ⟨n0, n1, _, _⟩ := two_cells G2
  obtain ⟨x0, x1, x2, _⟩ := two_cells F3
  have B3 := Lib.hid (hB.trans ((hb2.trans (hb3.mono hb2.size)).mono hB.size))
  have U3 := Lib.hid (hu.new (Nat.le_refl _) hb3)
  have s3 : Hid (w.heap.size + 3 ≤ w1.heap.size) := Lib.hid (by have := hsz.out; omega)
  rw [hlw] at U3
  clear hu hb2 hb3 hB k0 k1 k2 k3 kg j0 j1 jg f2
  replace hs3 := Lib.hid hs3
  replace g3 := Lib.hid g3
  replace G2 := Lib.hid G2
  go_upto_region 2 with fail
  clear hw3
  by_cases hok : q = 0 ∧ (lv = 6 ∨ lw = lv)
  · obtain ⟨W9, hW9, g9, gr9, gs9⟩ := put_two (u := .int .i64 lw) (v := .slice P nd.2.length pc) F3
    obtain ⟨o0, o1, _, _⟩ := two_cells g9
    have hfin := Lib.hid (show Nod (New w.heap.size W9) W9 (.agg #[.int .i64 lw, .slice P nd.2.length pc]) nd from
      (U3.out.grown gr9 (fun q e => by cases e; have := s3.out; omega)).new (by have := s3.out; omega) (Below.refl _ _))
    have hB9 := Lib.hid (B3.out.grown gr9 B3.out.size (fun q e => by cases e; omega))
    have hq0 := hok.1
    have hok' := Lib.hid hok
    subst hq0
    replace F3 := Lib.hid F3
    replace g9 := Lib.hid g9
    clear gr9 gs9
    by_cases h6 : lv = 6
    · have c1 : (lv != 6) = false := by simp [h6]
      clear hok h6
      go_wp2_with fail
      refine bodyPost_ret (v := .tuple #[.agg #[.int .i64 lw, .slice P nd.2.length pc], .int .i64 0]) (by simp [results, Tryz.results65, go_sem, o0, o1]) rfl ?_
      exact ⟨_, 0, nd, rfl, .inl ⟨hR.out.2 hok'.out, rfl, hND.out⟩, hfin.out, hB9.out⟩
    · have c1 : (lv != 6) = true := by simpa using h6
      have c2 : (lw != lv) = false := by
        rcases hok.2 with h | h
        · exact absurd h h6
        · simp [h]
      clear hok
      go_wp2_with fail
      refine bodyPost_ret (v := .tuple #[.agg #[.int .i64 lw, .slice P nd.2.length pc], .int .i64 0]) (by simp [results, Tryz.results65, go_sem, o0, o1]) rfl ?_
      exact ⟨_, 0, nd, rfl, .inl ⟨hR.out.2 hok'.out, rfl, hND.out⟩, hfin.out, hB9.out⟩
  · obtain ⟨W9, hW9, g9, gr9, gs9⟩ := put_two (u := .int .i64 0) (v := .slice none 0 0) F3
    obtain ⟨o0, o1, _, _⟩ := two_cells g9
    have hfin := Lib.hid (nod_zero (New w.heap.size W9) W9)
    have hB9 := Lib.hid (B3.out.grown gr9 B3.out.size (fun q e => by cases e; omega))
    have hok' := Lib.hid hok
    replace F3 := Lib.hid F3
    replace g9 := Lib.hid g9
    clear gr9 gs9
    by_cases hq0 : q = 0
    · have c1 : (lv != 6) = true := by
        have : ¬ lv = 6 := fun h => hok ⟨hq0, .inl h⟩
        simpa using this
      have c2 : (lw != lv) = true := by
        have : ¬ lw = lv := fun h => hok ⟨hq0, .inr h⟩
        simpa using this
      clear hok
      subst hq0
      go_wp2_with fail
      refine bodyPost_ret (v := .tuple #[.agg #[.int .i64 0, .slice none 0 0], .int .i64 8]) (by simp [results, Tryz.results65, go_sem, o0, o1]) rfl ?_
      exact ⟨_, 8, zeroN, rfl, .inr ⟨fun h => hok'.out (hR.out.1 h), rfl, rfl⟩, hfin.out, hB9.out⟩
    · have c0 : (q != 0) = true := by simpa using hq0
      clear hok
      go_wp2_with fail
      refine bodyPost_ret (v := .tuple #[.agg #[.int .i64 0, .slice none 0 0], .int .i64 8]) (by simp [results, Tryz.results65, go_sem, o0, o1]) rfl ?_
      exact ⟨_, 8, zeroN, rfl, .inr ⟨fun h => hok'.out (hR.out.1 h), rfl, rfl⟩, hfin.out, hB9.out⟩
end Go.Proofs.YtmdlgnlfgfhkmaaGreat

/-
  Package room: Same, New. Conditions: those that each lemma states.
-/
namespace Go.Proofs.YtmdlgnlfgfhkmaaGreat
open Go.RowKit

def sameR (a b : Rm) : Bool := sameB a.1 b.1 && decide (a.2.1 = b.2.1) && decide (a.2.2 = b.2.2)
theorem sameR_refl (a : Rm) : sameR a a = true := by simp [sameR, sameB]
theorem sameR_iff {a b : Rm} : sameR a b = true ↔ a = b := by
  simp only [sameR, sameB, Bool.and_eq_true, decide_eq_true_eq]
  exact ⟨fun ⟨⟨h1, h2⟩, h3⟩ => Prod.ext h1 (Prod.ext h2 h3), fun h => by rw [h]; exact ⟨⟨rfl, rfl⟩, rfl⟩⟩

/-- A new store. -/
def newR : Rm := (zeroD, zeros 256, zeros 256)
end Go.Proofs.YtmdlgnlfgfhkmaaGreat

/-
  The document's answers of layer 8: May, Check, asked, Same, New, All, Free. Conditions: those that each lemma states.
-/
namespace Go.Proofs.YtmdlgnlfgfhkmaaGreat
open Go.RowKit

theorem refMayT_by (v : Value) (t : List UInt8) (w : World) (h : rBy (Old w) w [v] t) : Calls Tryz.prog 39 #[v] w fun e w' => e = .returned (.bool (mayT t)) ∧ w = w' := by
  obtain ⟨A, c, rfl, l1, m1, hb⟩ := rBy_byt (B := w.heap.size) (fun _ h => h) h
  exact refMayT_any A t.length c t (Lib.hid rfl) l1 m1 w hb

set_option maxRecDepth 100000 in
set_option maxHeartbeats 2000000 in
theorem refMayR_any (v : Value) (s : Rm) (w : World) (h : Sto (Old w) w v s) : Calls Tryz.prog 22 #[v] w fun e w' => e = .returned (.bool (mayR s)) ∧ Below w.heap.size w w' := by
  obtain ⟨A, ca, B, cb, N, cn, L, cl, w1, rfl, hw1, f, hsz, hB, D, NN, LL⟩ := box_sto h
  clear h
  obtain ⟨k0, k1, k2, k3, _, kg⟩ := four_cells f
  replace hsz := Lib.hid hsz
  obtain ⟨p, hp⟩ : ∃ p, mayB s.1 = p := ⟨_, rfl⟩
  obtain ⟨q, hq⟩ : ∃ q, mayT s.2.1 = q := ⟨_, rfl⟩
  obtain ⟨r, hr⟩ : ∃ r, mayT s.2.2 = r := ⟨_, rfl⟩
  have hR : Hid (mayR s = (p && q && r)) := Lib.hid (by rw [mayR, hp, hq, hr])
  replace hp := Lib.hid hp
  replace hq := Lib.hid hq
  replace hr := Lib.hid hr
  cases p with
  | false =>
    go_enter Tryz.func22, Tryz.ntmps22
    go_upto_region 1 with fail
    clear hw1
    go_wp2_with fail
    with_reducible refine (may_any _ s.1 _ D.out).mono ?_
    rintro e w2 ⟨rfl, hb2⟩
    rw [hp.out]
    go_wp2_with fail
    go_ret
    exact ⟨ret_bool (by rw [hR.out]; rfl), hB.trans (hb2.mono hB.size)⟩
  | true =>
    cases q
    all_goals
      go_enter Tryz.func22, Tryz.ntmps22
      go_upto_region 1 with fail
      clear hw1
      go_wp2_with fail
      with_reducible refine (may_any _ s.1 _ D.out).mono ?_
      rintro e w2 ⟨rfl, hb2⟩
      rw [hp.out]
      replace k2 := (hb2.cell (p := ⟨w.heap.size, 2, none⟩) kg).trans k2
      replace k3 := (hb2.cell (p := ⟨w.heap.size, 3, none⟩) kg).trans k3
      have N2 := Lib.hid (stab_by.old NN.out hb2)
      have L2 := Lib.hid (stab_by.old LL.out hb2)
      replace hb2 := Lib.hid (hB.trans (hb2.mono hB.size))
      go_wp2_with fail
      with_reducible refine (refMayT_by _ s.2.1 _ N2.out).mono ?_
      rintro e w3 ⟨rfl, rfl⟩
      rw [hq.out]
      go_wp2_with fail
    · go_ret
      exact ⟨ret_bool (by rw [hR.out]; rfl), hb2.out⟩
    · with_reducible refine (refMayT_by _ s.2.2 _ L2.out).mono ?_
      rintro e w3 ⟨rfl, rfl⟩
      rw [hr.out]
      go_wp2_with fail
      go_ret
      exact ⟨ret_bool (by rw [hR.out]; cases r <;> rfl), hb2.out⟩

set_option maxRecDepth 100000 in
set_option maxHeartbeats 4000000 in
theorem refSameR_any (v u : Value) (s o : Rm) (w : World) (h : Sto (Old w) w v s) (hu : Sto (Old w) w u o) :
    Calls Tryz.prog 13 #[v, u] w fun e w' => e = .returned (.bool (sameR s o)) ∧ Below w.heap.size w w' := by
  obtain ⟨A, ca, B, cb, N, cn, L, cl, rfl, _, _, _⟩ := h.open
  obtain ⟨A', ca', B', cb', N', cn', L', cl', rfl, _, _, _⟩ := hu.open
  obtain ⟨w1, hw1, f1, f2, hsz, hB⟩ : ∃ w1, (w.alloc (.cells #[.slice A s.1.1.length ca, .slice B s.1.2.length cb, .slice N s.2.1.length cn, .slice L s.2.2.length cl] 28)).alloc (.cells #[.slice A' o.1.1.length ca', .slice B' o.1.2.length cb', .slice N' o.2.1.length cn', .slice L' o.2.2.length cl'] 28) = w1 ∧
      w1.heap[w.heap.size]? = some (.cells #[.slice A s.1.1.length ca, .slice B s.1.2.length cb, .slice N s.2.1.length cn, .slice L s.2.2.length cl] 28 (0, 0)) ∧ w1.heap[w.heap.size + 1]? = some (.cells #[.slice A' o.1.1.length ca', .slice B' o.1.2.length cb', .slice N' o.2.1.length cn', .slice L' o.2.2.length cl'] 28 (0, 0)) ∧ w1.heap.size = w.heap.size + 2 ∧ Below w.heap.size w w1 := by
    refine ⟨_, rfl, alloc_block (heap_alloc_new _ _), ?_, by simp, ((Below.refl _ w).alloc (Nat.le_refl _) _).alloc (by simp) _⟩
    have := heap_alloc_new (w.alloc (.cells #[.slice A s.1.1.length ca, .slice B s.1.2.length cb, .slice N s.2.1.length cn, .slice L s.2.2.length cl] 28)) (.cells #[.slice A' o.1.1.length ca', .slice B' o.1.2.length cb', .slice N' o.2.1.length cn', .slice L' o.2.2.length cl'] 28)
    rwa [World.size_alloc] at this
  have H := Lib.hid (h.below hB)
  have U := Lib.hid (hu.below hB)
  clear h hu
  obtain ⟨k0, k1, k2, k3, _, kg⟩ := four_cells f1
  obtain ⟨j0, j1, j2, j3, _, jg⟩ := four_cells f2
  replace hsz := Lib.hid hsz
  replace f1 := Lib.hid f1
  replace f2 := Lib.hid f2
  obtain ⟨p, hp⟩ : ∃ p, sameB s.1 o.1 = p := ⟨_, rfl⟩
  obtain ⟨q, hq⟩ : ∃ q, (s.2.1 == o.2.1) = q := ⟨_, rfl⟩
  obtain ⟨r, hr⟩ : ∃ r, (s.2.2 == o.2.2) = r := ⟨_, rfl⟩
  have hR : Hid (sameR s o = (p && q && r)) := Lib.hid (by rw [sameR, hp, ← hq, ← hr, beq_dec, beq_dec])
  replace hp := Lib.hid hp
  cases p with
  | false =>
    go_enter Tryz.func13, Tryz.ntmps13
    go_upto_region 1 with fail
    clear hw1
    go_wp2_with fail
    with_reducible refine (refSame_any _ _ s.1 o.1 _ H.out.parts.1 U.out.parts.1).mono ?_
    rintro e w2 ⟨rfl, hb2⟩
    rw [hp.out]
    replace hb2 := Lib.hid (hB.trans (hb2.mono hB.size))
    go_wp2_with fail
    go_ret
    exact ⟨ret_bool (by rw [hR.out]; rfl), hb2.out⟩
  | true =>
    cases q
    all_goals
      go_enter Tryz.func13, Tryz.ntmps13
      go_upto_region 1 with fail
      clear hw1
      go_wp2_with fail
      with_reducible refine (refSame_any _ _ s.1 o.1 _ H.out.parts.1 U.out.parts.1).mono ?_
      rintro e w2 ⟨rfl, hb2⟩
      rw [hp.out]
      replace k2 := (hb2.cell (p := ⟨w.heap.size, 2, none⟩) kg).trans k2
      replace k3 := (hb2.cell (p := ⟨w.heap.size, 3, none⟩) kg).trans k3
      replace j2 := (hb2.cell (p := ⟨w.heap.size + 1, 2, none⟩) jg).trans j2
      replace j3 := (hb2.cell (p := ⟨w.heap.size + 1, 3, none⟩) jg).trans j3
      have s1 := rBy_str0 (H.out.below hb2).parts.2.1
      have s2 := rBy_str0 (U.out.below hb2).parts.2.1
      have s3 := rBy_str0 (H.out.below hb2).parts.2.2
      have s4 := rBy_str0 (U.out.below hb2).parts.2.2
      replace hb2 := Lib.hid (hB.trans (hb2.mono hB.size))
      go_wp2_with fail
      go_ret
      exact ⟨ret_bool (by rw [hR.out]; first | rfl | simp), hb2.out⟩

set_option maxRecDepth 100000 in
set_option maxHeartbeats 4000000 in
theorem refAllR_any (v : Value) (s : Rm) (hm : mayR s = true) (w : World) (h : Sto (Old w) w v s) :
    Calls Tryz.prog 61 #[v] w fun e W' => ∃ u, e = .returned u ∧ rInts (New w.heap.size W') W' [u] (intsN (freeL s)) ∧ Below w.heap.size w W' := by
  obtain ⟨A, ca, B, cb, N, cn, L, cl, w1, rfl, hw1, f, hsz, hB, _, NN, LL⟩ := box_sto h
  clear h
  obtain ⟨k0, k1, k2, k3, _, kg⟩ := four_cells f
  obtain ⟨ad, bd, rfl, rfl, hl1, hl2, l1, l2, had, hbd, hc⟩ := tables_at hm NN.out LL.out
  rw [hl1] at k2 hw1 ⊢
  rw [hl2] at k3 hw1 ⊢
  have HC := Lib.hid hc
  replace hsz := Lib.hid hsz
  replace hl1 := Lib.hid hl1
  replace hl2 := Lib.hid hl2
  replace hm := Lib.hid hm
  clear hc NN LL f
  go_enter Tryz.func61, Tryz.ntmps61
  go_upto_region 1 with fail
  clear hw1
  go_wp2_with fail
  go_loopw [4, 3] (fun i u wr => ∃ k : Nat, k ≤ 248 ∧ i = .int .i64 ((8 + k : Nat) : Int) ∧ Below w1.heap.size w1 wr ∧ ∃ (A1 : Option Addr) (c1 : Nat), u = .slice A1 (freeK s k).length c1 ∧ RowOf (rK .i64) 1 3 w1.heap.size wr A1 c1 (intsN (freeK s k))) (fun i _ _ => 256 - (intOf i).toNat)
  case atStart => exact ⟨0, by omega, by simp, Below.refl _ _, none, 0, rfl, RowOf.nil _ _ _ _ _⟩
  case round =>
    obtain ⟨k, hk, rfl, hnx, A1, c1, rfl, hrow⟩ := hrel
    have b2 := (hnx.cell (p := ⟨w.heap.size, 2, none⟩) kg).trans k2
    have b3 := (hnx.cell (p := ⟨w.heap.size, 3, none⟩) kg).trans k3
    have HB := Lib.hid hnx
    replace hrow := Lib.hid hrow
    by_cases hlt : k < 248
    · have hx := HC.out (8 + k) (by omega)
      have c1' := (hnx.cell (p := ad.add (8 + k)) (by rw [add_block]; exact had)).trans hx.1
      have c2 := (hnx.cell (p := bd.add (8 + k)) (by rw [add_block]; exact hbd)).trans hx.2
      clear hx hnx
      have hlen := freeK_len s k
      have hi : 8 + k < 256 := by omega
      have hno1 := Lib.hid (fun h => freeK_no (freeAt_no1 (s := s) (i := 8 + k) h))
      have hno2 := Lib.hid (fun h => freeK_no (freeAt_no2 (s := s) (i := 8 + k) h))
      have hyes := Lib.hid (fun h h' => freeK_yes (freeAt_yes (s := s) (i := 8 + k) h h'))
      obtain ⟨x, hx⟩ : ∃ x, s.2.1[8 + k]?.getD 0 = x := ⟨_, rfl⟩
      obtain ⟨y, hy⟩ : ∃ y, s.2.2[8 + k]?.getD 0 = y := ⟨_, rfl⟩
      rw [hx] at c1' hno1 hyes
      rw [hy] at c2 hno2 hyes
      replace hx := Lib.hid hx
      replace hy := Lib.hid hy
      obtain ⟨i, hi2⟩ : ∃ i, 8 + k = i := ⟨_, rfl⟩
      have hi3 : Hid (8 + k = i) := Lib.hid hi2
      rw [hi2] at c1' c2 hi hyes ⊢
      clear hi2
      obtain ⟨M, hM⟩ : ∃ M, (freeK s k).length = M := ⟨_, rfl⟩
      rw [hM] at hlen ⊢
      replace hM := Lib.hid hM
      by_cases h0 : x = 0
      · by_cases h1 : y = 0
        · have t0 := byte_same (y := 0) (q := 0) rfl h0
          have t1 := byte_same (y := 0) (q := 0) rfl h1
          have hfk := Lib.hid (hyes.out h0 h1)
          replace h0 := Lib.hid h0
          replace h1 := Lib.hid h1
          obtain ⟨w8, hw8, hs8⟩ : ∃ w8, wr.alloc (.cells #[.int .i64 (i : Int)] 3) = w8 ∧ w8.heap[wr.heap.size]? = some (.cells #[.int .i64 (i : Int)] 3 (0, 0)) := ⟨_, rfl, heap_alloc_new _ _⟩
          have b8 : Below wr.heap.size wr w8 := by rw [← hw8]; exact (Below.refl _ _).alloc (Nat.le_refl _) _
          have row8 := hrow.out.below (stab_k _) b8
          obtain ⟨A2, c2', w9, hr9, row9, _, ba9⟩ := ints_push row8 wr.heap.size (i : Int) 1 hs8 (by rw [intsN_length, hM.out]; omega) (Nat.le_trans HB.out.size b8.size) ⟨by omega, by omega⟩
          rw [intsN_length, hM.out] at hr9
          have B9 := Lib.hid ((HB.out.trans (b8.mono HB.out.size)).trans ba9)
          have H9 := Lib.hid hr9
          replace row9 := Lib.hid row9
          replace hs8 := Lib.hid hs8
          clear b8 row8 hr9 ba9
          go_wp2_with (at_builtin; refine wpList_append_run rfl _ _ _ rfl rfl rfl H9.out ?_; clear H9)
          go_roundw
          case rel =>
            refine ⟨k + 1, by omega, by have := hi3.out; go_num, B9.out, A2, c2', ?_, ?_⟩
            · rw [hfk.out, List.length_append, hM.out]; rfl
            · rw [hfk.out, intsN_snoc]; exact row9.out
          case measure => simp [intOf]; omega
        · have t0 := byte_same (y := 0) (q := 0) rfl h0
          have t1 := byte_unlike (y := 0) (q := 0) rfl h1
          have hfk := Lib.hid (hno2.out h1)
          replace h0 := Lib.hid h0
          replace h1 := Lib.hid h1
          go_wp2_with fail
          go_roundw
          case rel => exact ⟨k + 1, by omega, by have := hi3.out; go_num, HB.out, A1, c1, by rw [hfk.out, hM.out], by rw [hfk.out]; exact hrow.out⟩
          case measure => simp [intOf]; omega
      · have t0 := byte_unlike (y := 0) (q := 0) rfl h0
        have hfk := Lib.hid (hno1.out h0)
        replace h0 := Lib.hid h0
        go_wp2_with fail
        go_roundw
        case rel => exact ⟨k + 1, by omega, by have := hi3.out; go_num, HB.out, A1, c1, by rw [hfk.out, hM.out], by rw [hfk.out]; exact hrow.out⟩
        case measure => simp [intOf]; omega
    · obtain rfl : k = 248 := by omega
      clear hnx
      go_wp2_with fail
      go_ret
      have hr := (hrow.out.low (stab_k _) hB.size).rel (stab_k _)
      rw [intsN_length] at hr
      exact ⟨_, rfl, hr, hB.trans (HB.out.mono hB.size)⟩

end Go.Proofs.YtmdlgnlfgfhkmaaGreat

/-
  The document's answers of layer 6: May, Check. Conditions: those that each lemma states.
-/
namespace Go.Proofs.YtmdlgnlfgfhkmaaGreat
open Go.RowKit

set_option maxRecDepth 100000 in
set_option maxHeartbeats 8000000 in
theorem refMayN_any (v : Value) (n : Nd) (w : World) (h : Nod (Old w) w v n) : Calls Tryz.prog 23 #[v] w fun e w' => e = .returned (.bool (mayN n)) ∧ Below w.heap.size w w' := by
  obtain ⟨A, c, rfl, hin, l1, m1, hA⟩ := h.open
  have hbad0 := Lib.hid (fun hh => mayN_shape (n := n) hh)
  have hbad1 : Hid (∀ k, k < n.2.length → okAt n k = false → mayN n = false) := Lib.hid fun k hk hh => mayN_at hk hh
  have hgood := Lib.hid (fun hh h2 => mayN_mk (n := n) hh h2)
  have HA := Lib.hid hA
  clear h hA
  obtain ⟨m, hm⟩ : ∃ m, n.2.length = m := ⟨_, rfl⟩
  obtain ⟨l, hl⟩ : ∃ l, n.1 = l := ⟨_, rfl⟩
  rw [hm] at l1 hbad0 hbad1 hgood HA ⊢
  rw [hl] at hbad0 hgood hin ⊢
  obtain ⟨i1, i2⟩ := hin
  replace hm := Lib.hid hm
  replace hl := Lib.hid hl
  obtain ⟨w0, hw0, b0, hs0, hB0⟩ := box_pair' w (.int .i64 l) (.slice A m c) 31
  obtain ⟨f1, f2, _, lt0⟩ := two_cells b0
  replace hB0 := Lib.hid hB0
  replace b0 := Lib.hid b0
  replace hs0 := Lib.hid hs0
  by_cases h1 : l < 0
  · have hr := Lib.hid (hbad0.out (by omega))
    go_enter Tryz.func23, Tryz.ntmps23
    go_upto_region 1 with fail
    clear hw0
    go_wp2_with fail
    go_ret
    exact ⟨ret_bool hr.out.symm, hB0.out⟩
  by_cases h2 : 6 ≤ l
  · have hr := Lib.hid (hbad0.out (by omega))
    go_enter Tryz.func23, Tryz.ntmps23
    go_upto_region 1 with fail
    clear hw0
    go_wp2_with fail
    go_ret
    exact ⟨ret_bool hr.out.symm, hB0.out⟩
  by_cases h3 : 5 < m
  · have hr := Lib.hid (hbad0.out (by omega))
    have h3' : (5 : Int) < m := by omega
    go_enter Tryz.func23, Tryz.ntmps23
    go_upto_region 1 with fail
    clear hw0
    go_wp2_with fail
    go_ret
    exact ⟨ret_bool hr.out.symm, hB0.out⟩
  have h3' : ¬ (5 : Int) < m := by omega
  by_cases h4 : 0 < l ∧ m = 0
  · have hr := Lib.hid (hbad0.out (by omega))
    obtain ⟨h4a, h4b⟩ := h4
    have h4c : ((m : Int) == 0) = true := by simp; omega
    replace h4b := Lib.hid h4b
    go_enter Tryz.func23, Tryz.ntmps23
    go_upto_region 1 with fail
    clear hw0
    go_wp2_with fail
    go_ret
    exact ⟨ret_bool hr.out.symm, hB0.out⟩
  have hgood2 := Lib.hid (hgood.out (by omega))
  have hB := Lib.hid (fun wr (hb : Below w0.heap.size w0 wr) => hB0.out.trans (hb.mono hB0.out.size))
  clear hgood hbad0
  go_enter Tryz.func23, Tryz.ntmps23
  go_upto_region 1 with fail
  clear hw0
  go_cut [29] from 5 to 29 (fun c wx => c = .bool false ∧ w0 = wx)
  case first =>
    rcases (by omega : l ≤ 0 ∨ (0 < l ∧ m ≠ 0)) with h5 | ⟨h5, h6⟩
    · have h5' : ¬ (0 : Int) < l := by omega
      replace h4 := Lib.hid h4
      go_wp2_with fail
      go_meet
      exact ⟨rfl, rfl⟩
    · have h6' : ((m : Int) == 0) = false := by simp; omega
      replace h6 := Lib.hid h6
      replace h4 := Lib.hid h4
      go_wp2_with fail
      go_meet
      exact ⟨rfl, rfl⟩
  case rest =>
  obtain ⟨rfl, rfl⟩ := hcut
  replace h4 := Lib.hid h4
  go_wp2_with fail
  go_loopw [3] (fun i wr => ∃ k : Nat, k ≤ m ∧ i = .int .i64 k ∧ (∀ j, j < k → okAt n j = true) ∧ Below w0.heap.size w0 wr) (fun i _ => m - (intOf i).toNat)
  case atStart => exact ⟨0, by omega, rfl, fun j hj => by omega, Below.refl _ _⟩
  case round =>
    obtain ⟨k, hk, rfl, ha, hb⟩ := hrel
    replace ha := Lib.hid ha
    replace hb := Lib.hid hb
    have p1 := (hb.out.cell (p := ⟨w.heap.size, 0, none⟩) lt0).trans f1
    have p2 := (hb.out.cell (p := ⟨w.heap.size, 1, none⟩) lt0).trans f2
    by_cases hlt : k < m
    case neg =>
      have hfin := Lib.hid (hgood2.out fun i hi => ha.out i (by omega))
      have BF := Lib.hid (hB.out _ hb.out)
      go_wp2_with fail
      go_ret
      exact ⟨ret_bool hfin.out.symm, BF.out⟩
    obtain ⟨x, hx⟩ : ∃ x, n.2[k]? = some x := ⟨_, List.getElem?_eq_getElem (by rw [hm.out]; exact hlt)⟩
    obtain ⟨ad, E, ce, rfl, q1, q2, hinx, FX⟩ := its_old HA.out hx
    obtain ⟨⟨z0, z1, z2, z3, z4⟩, hIx⟩ := FX wr (hB.out _ hb.out)
    obtain ⟨w2, hw2, g0, g1, g2, g3, g4, hs2, hB2, _⟩ := box_five wr (.int .u8 (x.1.1.toNat : Int)) (.int .u32 x.1.2.1) (.int .u32 x.1.2.2) (.int .i64 x.2.1) (.slice E x.2.2.length ce) 52
    have lt2 : wr.heap.size < w2.heap.size := by omega
    have B2 := Lib.hid (hb.out.trans (hB2.mono hb.out.size))
    have HI : Hid (∀ W, Below w2.heap.size w2 W → Itm (Old W) W (.agg #[.int .u8 (x.1.1.toNat : Int), .int .u32 x.1.2.1, .int .u32 x.1.2.2, .int .i64 x.2.1, .slice E x.2.2.length ce]) x) := Lib.hid fun W hW => (hIx.below hB2).below hW
    have HX : Hid (∀ W, Below w2.heap.size w2 W → W.cell? ⟨wr.heap.size, 3, none⟩ = some (.int .i64 x.2.1) ∧ W.cell? ⟨wr.heap.size, 4, none⟩ = some (.slice E x.2.2.length ce)) := Lib.hid fun W hW => ⟨(hW.cell (p := ⟨wr.heap.size, 3, none⟩) lt2).trans g3, (hW.cell (p := ⟨wr.heap.size, 4, none⟩) lt2).trans g4⟩
    have HX0 : Hid (∀ W, Below w2.heap.size w2 W → W.cell? ⟨wr.heap.size, 0, none⟩ = some (.int .u8 (x.1.1.toNat : Int)) ∧ W.cell? ⟨wr.heap.size, 1, none⟩ = some (.int .u32 x.1.2.1) ∧ W.cell? ⟨wr.heap.size, 2, none⟩ = some (.int .u32 x.1.2.2)) := Lib.hid fun W hW => ⟨(hW.cell (p := ⟨wr.heap.size, 0, none⟩) lt2).trans g0, (hW.cell (p := ⟨wr.heap.size, 1, none⟩) lt2).trans g1, (hW.cell (p := ⟨wr.heap.size, 2, none⟩) lt2).trans g2⟩
    have HP : Hid (∀ W, Below w2.heap.size w2 W → W.cell? ⟨w.heap.size, 0, none⟩ = some (.int .i64 l) ∧ W.cell? ⟨w.heap.size, 1, none⟩ = some (.slice (some ad) m c)) := Lib.hid fun W hW => ⟨((B2.out.trans (hW.mono B2.out.size)).cell (p := ⟨w.heap.size, 0, none⟩) lt0).trans f1, ((B2.out.trans (hW.mono B2.out.size)).cell (p := ⟨w.heap.size, 1, none⟩) lt0).trans f2⟩
    replace hx := Lib.hid hx
    replace hs2 := Lib.hid hs2
    have hbk := Lib.hid (hbad1.out k hlt)
    have hstep : Hid (okAt n k = true → ∀ j, j < k + 1 → okAt n j = true) := Lib.hid fun h j hj => by
      rcases Nat.lt_or_ge j k with h1 | h1
      · exact ha.out j h1
      · obtain rfl : j = k := by omega
        exact h
    clear FX hIx hinx hB2
    go_upto_region 7 with fail
    clear hw2 z0 z1 z2 z3 z4 g0 g1 g2 g3 g4 p1 p2
    rcases bool_two (mayI x) with hmx | hmx
    · have hr := Lib.hid (hbk.out (okAt_noP hx.out (by rw [okP, hmx]; rfl)))
      replace hmx := Lib.hid hmx
      refine wp_region_fx (by kernel_rfl) (fun W => Below w2.heap.size w2 W) (fun _ => none) (fun i => match i with
        | 1 => some (.bool false)
        | 16 => some (.bool false)
        | _ => none) (by kernel_rfl) (Below.refl _ _).drew (fun w w' h hb => h.trans (hb.mono h.size)) (fun j φ x W W' hp => by cases hp) ?_
      repeat (first
        | (refine wpAs_skip rfl ?_; simp only [Act.put, List.setIfInBounds_toArray, List.set_cons_zero, List.set_cons_succ])
        | (refine wpAs_pure (v := ?_) rfl rfl ?_ ?_; rotate_left; (intro W hC hE; clear hE; (obtain ⟨r0, r1, r2⟩ := HX0.out W hC; obtain ⟨r3, r4⟩ := HX.out W hC); clear hC; go_simp; done); simp only [Act.put, List.setIfInBounds_toArray, List.set_cons_zero, List.set_cons_succ])
        | (refine wpAs_pure (v := ?_) rfl rfl ?_ ?_; rotate_left; (intro W hC hE; clear hE; (obtain ⟨r0, r1, r2⟩ := HX0.out W hC; obtain ⟨r3, r4⟩ := HX.out W hC); clear hC; go_simp; with_reducible rfl); simp only [Act.put, List.setIfInBounds_toArray, List.set_cons_zero, List.set_cons_succ]))
      refine wpAs_fixed rfl rfl rfl ?_ ?_
      · intro W hC hE
        refine does_enter (f := 40) (args := #[.agg #[.int .u8 (x.1.1.toNat : Int), .int .u32 x.1.2.1, .int .u32 x.1.2.2, .int .i64 x.2.1, .slice E x.2.2.length ce]]) ?_ ?_
        · go_simp
        · refine (refMayI_any _ x W (HI.out W hC)).mono ?_
          (rintro e W' ⟨rfl, hg⟩; rw [hmx.out])
          exact ⟨_, rfl, rfl, hg⟩
      simp only [Act.put, List.setIfInBounds_toArray, List.set_cons_zero, List.set_cons_succ]
      iterate 1 (first
        | (refine wpAs_skip rfl ?_; simp only [Act.put, List.setIfInBounds_toArray, List.set_cons_zero, List.set_cons_succ])
        | (refine wpAs_pure (v := ?_) rfl rfl ?_ ?_; rotate_left; (intro W hC hE; clear hE; skip; clear hC; go_simp; with_reducible rfl); simp only [Act.put, List.setIfInBounds_toArray, List.set_cons_zero, List.set_cons_succ]))
      refine wpAs_pure_jump (v := .bool true) 15 rfl rfl rfl ?_ (by kernel_rfl) ?_
      · intro W hC hE
        clear hE hC
        first
          | (go_simp; done)
          | (go_simp; simp; omega)
          | (go_simp; simp_all; done)
      simp only [skipN, Act.put, List.drop_succ_cons, List.drop_zero, List.setIfInBounds_toArray, List.set_cons_zero, List.set_cons_succ]
      iterate 1 (first
        | (refine wpAs_skip rfl ?_; simp only [Act.put, List.setIfInBounds_toArray, List.set_cons_zero, List.set_cons_succ])
        | (refine wpAs_pure (v := ?_) rfl rfl ?_ ?_; rotate_left; (intro W hC hE; clear hE; skip; clear hC; go_simp; with_reducible rfl); simp only [Act.put, List.setIfInBounds_toArray, List.set_cons_zero, List.set_cons_succ]))
      refine wpAs_pure_jump (v := .bool true) 14 rfl rfl rfl ?_ (by kernel_rfl) ?_
      · intro W hC hE
        clear hE hC
        first
          | (go_simp; done)
          | (go_simp; simp; omega)
          | (go_simp; simp_all; done)
      simp only [skipN, Act.put, List.drop_succ_cons, List.drop_zero, List.setIfInBounds_toArray, List.set_cons_zero, List.set_cons_succ]
      iterate 1 (first
        | (refine wpAs_skip rfl ?_; simp only [Act.put, List.setIfInBounds_toArray, List.set_cons_zero, List.set_cons_succ])
        | (refine wpAs_pure (v := ?_) rfl rfl ?_ ?_; rotate_left; (intro W hC hE; clear hE; skip; clear hC; go_simp; with_reducible rfl); simp only [Act.put, List.setIfInBounds_toArray, List.set_cons_zero, List.set_cons_succ]))
      refine wpAs_end fun W hC hE => ?_
      have BF := Lib.hid (hB.out _ (B2.out.trans (hC.mono B2.out.size)))
      clear hE hC
      go_wp2_with fail
      go_ret
      exact ⟨ret_bool hr.out.symm, BF.out⟩
    replace hmx := Lib.hid hmx
    rcases (by rcases k with _ | j; exact Or.inl rfl; exact Or.inr ⟨j, rfl⟩ : k = 0 ∨ ∃ j, k = j + 1) with hk0 | ⟨j, hkj⟩
    · have kz : ¬ (0 : Int) < (k : Int) := by omega
      have hsucc := Lib.hid (show okAt n k = okP n.1 x by subst hk0; exact okAt_zero hx.out)
      replace hk0 := Lib.hid hk0
      refine wp_region_fx (by kernel_rfl) (fun W => Below w2.heap.size w2 W) (fun _ => none) (fun i => match i with
        | 1 => some (.bool true)
        | 16 => some (.bool true)
        | _ => none) (by kernel_rfl) (Below.refl _ _).drew (fun w w' h hb => h.trans (hb.mono h.size)) (fun j φ x W W' hp => by cases hp) ?_
      repeat (first
        | (refine wpAs_skip rfl ?_; simp only [Act.put, List.setIfInBounds_toArray, List.set_cons_zero, List.set_cons_succ])
        | (refine wpAs_pure (v := ?_) rfl rfl ?_ ?_; rotate_left; (intro W hC hE; clear hE; (obtain ⟨r0, r1, r2⟩ := HX0.out W hC; obtain ⟨r3, r4⟩ := HX.out W hC); clear hC; go_simp; done); simp only [Act.put, List.setIfInBounds_toArray, List.set_cons_zero, List.set_cons_succ])
        | (refine wpAs_pure (v := ?_) rfl rfl ?_ ?_; rotate_left; (intro W hC hE; clear hE; (obtain ⟨r0, r1, r2⟩ := HX0.out W hC; obtain ⟨r3, r4⟩ := HX.out W hC); clear hC; go_simp; with_reducible rfl); simp only [Act.put, List.setIfInBounds_toArray, List.set_cons_zero, List.set_cons_succ]))
      refine wpAs_fixed rfl rfl rfl ?_ ?_
      · intro W hC hE
        refine does_enter (f := 40) (args := #[.agg #[.int .u8 (x.1.1.toNat : Int), .int .u32 x.1.2.1, .int .u32 x.1.2.2, .int .i64 x.2.1, .slice E x.2.2.length ce]]) ?_ ?_
        · go_simp
        · refine (refMayI_any _ x W (HI.out W hC)).mono ?_
          (rintro e W' ⟨rfl, hg⟩; rw [hmx.out])
          exact ⟨_, rfl, rfl, hg⟩
      simp only [Act.put, List.setIfInBounds_toArray, List.set_cons_zero, List.set_cons_succ]
      iterate 4 (first
        | (refine wpAs_skip rfl ?_; simp only [Act.put, List.setIfInBounds_toArray, List.set_cons_zero, List.set_cons_succ])
        | (refine wpAs_pure (v := ?_) rfl rfl ?_ ?_; rotate_left; (intro W hC hE; clear hE; skip; clear hC; go_simp; with_reducible rfl); simp only [Act.put, List.setIfInBounds_toArray, List.set_cons_zero, List.set_cons_succ]))
      refine wpAs_pure_jump (v := .bool false) 11 rfl rfl rfl ?_ (by kernel_rfl) ?_
      · intro W hC hE
        clear hE hC
        first
          | (go_simp; done)
          | (go_simp; simp; omega)
          | (go_simp; simp_all; done)
      simp only [skipN, Act.put, List.drop_succ_cons, List.drop_zero, List.setIfInBounds_toArray, List.set_cons_zero, List.set_cons_succ]
      iterate 2 (first
        | (refine wpAs_skip rfl ?_; simp only [Act.put, List.setIfInBounds_toArray, List.set_cons_zero, List.set_cons_succ])
        | (refine wpAs_pure (v := ?_) rfl rfl ?_ ?_; rotate_left; (intro W hC hE; clear hE; skip; clear hC; go_simp; with_reducible rfl); simp only [Act.put, List.setIfInBounds_toArray, List.set_cons_zero, List.set_cons_succ]))
      iterate 4 (first
        | (refine wpAs_skip rfl ?_; simp only [Act.put, List.setIfInBounds_toArray, List.set_cons_zero, List.set_cons_succ])
        | (refine wpAs_pure (v := ?_) rfl rfl ?_ ?_; rotate_left; (intro W hC hE; clear hE; (obtain ⟨p3, p4⟩ := HP.out W hC); clear hC; go_simp; with_reducible rfl); simp only [Act.put, List.setIfInBounds_toArray, List.set_cons_zero, List.set_cons_succ]))
      by_cases h7 : l ≤ 0
      · have h7' : ¬ (0 : Int) < l := by omega
        have hall := Lib.hid (hstep.out (by rw [hsucc.out, okP, hmx.out, hl.out]; simp [h7]))
        refine wpAs_pure_jump (v := .bool false) 9 rfl rfl rfl ?_ (by kernel_rfl) ?_
        · intro W hC hE
          clear hE hC
          first
            | (go_simp; done)
            | (go_simp; simp; omega)
            | (go_simp; simp_all; done)
        simp only [skipN, Act.put, List.drop_succ_cons, List.drop_zero, List.setIfInBounds_toArray, List.set_cons_zero, List.set_cons_succ]
        iterate 2 (first
          | (refine wpAs_skip rfl ?_; simp only [Act.put, List.setIfInBounds_toArray, List.set_cons_zero, List.set_cons_succ])
          | (refine wpAs_pure (v := ?_) rfl rfl ?_ ?_; rotate_left; (intro W hC hE; clear hE; skip; clear hC; go_simp; with_reducible rfl); simp only [Act.put, List.setIfInBounds_toArray, List.set_cons_zero, List.set_cons_succ]))
        refine wpAs_end fun W hC hE => ?_
        have BW := Lib.hid (B2.out.trans (hC.mono B2.out.size))
        clear hE hC
        go_wp2_with fail
        go_roundw
        case rel => exact ⟨k + 1, by omega, by go_num, hall.out, BW.out⟩
        case measure => simp [intOf]; omega
      · have h7' : (0 : Int) < l := by omega
        refine wpAs_pure_jump (v := .bool true) 0 rfl rfl rfl ?_ (by kernel_rfl) ?_
        · intro W hC hE
          clear hE hC
          first
            | (go_simp; done)
            | (go_simp; simp; omega)
            | (go_simp; simp_all; done)
        simp only [skipN, Act.put, List.drop_zero, List.setIfInBounds_toArray, List.set_cons_zero, List.set_cons_succ]
        iterate 3 (first
          | (refine wpAs_skip rfl ?_; simp only [Act.put, List.setIfInBounds_toArray, List.set_cons_zero, List.set_cons_succ])
          | (refine wpAs_pure (v := ?_) rfl rfl ?_ ?_; rotate_left; (intro W hC hE; clear hE; (obtain ⟨p3, p4⟩ := HP.out W hC; obtain ⟨r3, r4⟩ := HX.out W hC); clear hC; go_simp; with_reducible rfl); simp only [Act.put, List.setIfInBounds_toArray, List.set_cons_zero, List.set_cons_succ]))
        by_cases h8 : x.2.1 = 0
        · have h8' : (x.2.1 == 0) = true := by simpa using h8
          have hr := Lib.hid (hbk.out (okAt_noP hx.out (by rw [okP, hmx.out, hl.out, refersI]; simp [h8]; omega)))
          replace h8 := Lib.hid h8
          refine wpAs_pure_jump (v := .bool true) 4 rfl rfl rfl ?_ (by kernel_rfl) ?_
          · intro W hC hE
            clear hE hC
            first
              | (go_simp; done)
              | (go_simp; simp; omega)
              | (go_simp; simp_all; done)
          simp only [skipN, Act.put, List.drop_succ_cons, List.drop_zero, List.setIfInBounds_toArray, List.set_cons_zero, List.set_cons_succ]
          iterate 3 (first
            | (refine wpAs_skip rfl ?_; simp only [Act.put, List.setIfInBounds_toArray, List.set_cons_zero, List.set_cons_succ])
            | (refine wpAs_pure (v := ?_) rfl rfl ?_ ?_; rotate_left; (intro W hC hE; clear hE; skip; clear hC; go_simp; with_reducible rfl); simp only [Act.put, List.setIfInBounds_toArray, List.set_cons_zero, List.set_cons_succ]))
          refine wpAs_end fun W hC hE => ?_
          have BF := Lib.hid (hB.out _ (B2.out.trans (hC.mono B2.out.size)))
          clear hE hC
          go_wp2_with fail
          go_ret
          exact ⟨ret_bool hr.out.symm, BF.out⟩
        · have h8' : (x.2.1 == 0) = false := by simpa using h8
          by_cases h9 : x.2.2.length = 0
          · have h9' : ¬ (0 : Int) < (x.2.2.length : Int) := by omega
            have hall := Lib.hid (hstep.out (by rw [hsucc.out, okP, hmx.out, refersI]; simp [h8, h9]))
            replace h8 := Lib.hid h8
            replace h9 := Lib.hid h9
            refine wpAs_pure_jump (v := .bool false) 0 rfl rfl rfl ?_ (by kernel_rfl) ?_
            · intro W hC hE
              clear hE hC
              first
                | (go_simp; done)
                | (go_simp; simp; omega)
                | (go_simp; simp_all; done)
            simp only [skipN, Act.put, List.drop_zero, List.setIfInBounds_toArray, List.set_cons_zero, List.set_cons_succ]
            iterate 7 (first
              | (refine wpAs_skip rfl ?_; simp only [Act.put, List.setIfInBounds_toArray, List.set_cons_zero, List.set_cons_succ])
              | (refine wpAs_pure (v := ?_) rfl rfl ?_ ?_; rotate_left; (intro W hC hE; clear hE; (obtain ⟨r3, r4⟩ := HX.out W hC); clear hC; go_simp; with_reducible rfl); simp only [Act.put, List.setIfInBounds_toArray, List.set_cons_zero, List.set_cons_succ]))
            refine wpAs_end fun W hC hE => ?_
            have BW := Lib.hid (B2.out.trans (hC.mono B2.out.size))
            clear hE hC
            go_wp2_with fail
            go_roundw
            case rel => exact ⟨k + 1, by omega, by go_num, hall.out, BW.out⟩
            case measure => simp [intOf]; omega
          · have h9' : (0 : Int) < (x.2.2.length : Int) := by omega
            have hr := Lib.hid (hbk.out (okAt_noP hx.out (by rw [okP, hmx.out, hl.out, refersI]; simp [h9]; omega)))
            replace h8 := Lib.hid h8
            replace h9 := Lib.hid h9
            refine wpAs_pure_jump (v := .bool false) 0 rfl rfl rfl ?_ (by kernel_rfl) ?_
            · intro W hC hE
              clear hE hC
              first
                | (go_simp; done)
                | (go_simp; simp; omega)
                | (go_simp; simp_all; done)
            simp only [skipN, Act.put, List.drop_zero, List.setIfInBounds_toArray, List.set_cons_zero, List.set_cons_succ]
            iterate 7 (first
              | (refine wpAs_skip rfl ?_; simp only [Act.put, List.setIfInBounds_toArray, List.set_cons_zero, List.set_cons_succ])
              | (refine wpAs_pure (v := ?_) rfl rfl ?_ ?_; rotate_left; (intro W hC hE; clear hE; (obtain ⟨r3, r4⟩ := HX.out W hC); clear hC; go_simp; with_reducible rfl); simp only [Act.put, List.setIfInBounds_toArray, List.set_cons_zero, List.set_cons_succ]))
            refine wpAs_end fun W hC hE => ?_
            have BF := Lib.hid (hB.out _ (B2.out.trans (hC.mono B2.out.size)))
            clear hE hC
            go_wp2_with fail
            go_ret
            exact ⟨ret_bool hr.out.symm, BF.out⟩
    · obtain ⟨y, hy⟩ : ∃ y, n.2[j]? = some y := ⟨_, List.getElem?_eq_getElem (by rw [hm.out]; omega)⟩
      obtain ⟨ad', E', ce', e', _, _, _, FY⟩ := its_old HA.out hy
      have e'' := Option.some.inj e'
      subst e''
      clear e'
      have FYY := Lib.hid fun W (hW : Below w2.heap.size w2 W) => (FY W ((hB.out _ B2.out).trans (hW.mono (hB.out _ B2.out).size))).1
      have hs0 := okAt_succ (n := n) (k := j) (x := x) (p := y) (by rw [← hkj]; exact hx.out) hy
      rw [← hkj] at hs0
      have hj1 : (k : Int) - 1 = (j : Int) := by omega
      have hwj : IntKind.i64.wrap (j : Int) = (j : Int) := IntWalk.i64_in _ (by omega)
      have hj0 : (0 : Int) ≤ (j : Int) := by omega
      have kpos : (0 : Int) < (k : Int) := by omega
      have hjm : (j : Int) < (m : Int) := by omega
      replace hy := Lib.hid hy
      replace hkj := Lib.hid hkj
      clear FY
      rcases bool_two (lessK y.1 x.1) with hs | hs
      · have hr := Lib.hid (hbk.out (by rw [hs0, hs]; simp))
        replace hs := Lib.hid hs
        replace hs0 := Lib.hid hs0
        refine wp_region_fx (by kernel_rfl) (fun W => Below w2.heap.size w2 W) (fun _ => none) (fun i => match i with
          | 1 => some (.bool true)
          | 16 => some (.bool false)
          | _ => none) (by kernel_rfl) (Below.refl _ _).drew (fun w w' h hb => h.trans (hb.mono h.size)) (fun j φ x W W' hp => by cases hp) ?_
        repeat (first
          | (refine wpAs_skip rfl ?_; simp only [Act.put, List.setIfInBounds_toArray, List.set_cons_zero, List.set_cons_succ])
          | (refine wpAs_pure (v := ?_) rfl rfl ?_ ?_; rotate_left; (intro W hC hE; clear hE; (obtain ⟨r0, r1, r2⟩ := HX0.out W hC; obtain ⟨r3, r4⟩ := HX.out W hC); clear hC; go_simp; done); simp only [Act.put, List.setIfInBounds_toArray, List.set_cons_zero, List.set_cons_succ])
          | (refine wpAs_pure (v := ?_) rfl rfl ?_ ?_; rotate_left; (intro W hC hE; clear hE; (obtain ⟨r0, r1, r2⟩ := HX0.out W hC; obtain ⟨r3, r4⟩ := HX.out W hC); clear hC; go_simp; with_reducible rfl); simp only [Act.put, List.setIfInBounds_toArray, List.set_cons_zero, List.set_cons_succ]))
        refine wpAs_fixed rfl rfl rfl ?_ ?_
        · intro W hC hE
          refine does_enter (f := 40) (args := #[.agg #[.int .u8 (x.1.1.toNat : Int), .int .u32 x.1.2.1, .int .u32 x.1.2.2, .int .i64 x.2.1, .slice E x.2.2.length ce]]) ?_ ?_
          · go_simp
          · refine (refMayI_any _ x W (HI.out W hC)).mono ?_
            (rintro e W' ⟨rfl, hg⟩; rw [hmx.out])
            exact ⟨_, rfl, rfl, hg⟩
        simp only [Act.put, List.setIfInBounds_toArray, List.set_cons_zero, List.set_cons_succ]
        iterate 4 (first
          | (refine wpAs_skip rfl ?_; simp only [Act.put, List.setIfInBounds_toArray, List.set_cons_zero, List.set_cons_succ])
          | (refine wpAs_pure (v := ?_) rfl rfl ?_ ?_; rotate_left; (intro W hC hE; clear hE; skip; clear hC; go_simp; with_reducible rfl); simp only [Act.put, List.setIfInBounds_toArray, List.set_cons_zero, List.set_cons_succ]))
        refine wpAs_pure_jump (v := .bool true) 0 rfl rfl rfl ?_ (by kernel_rfl) ?_
        · intro W hC hE
          clear hE hC
          first
            | (go_simp; done)
            | (go_simp; simp; omega)
            | (go_simp; simp_all; done)
        simp only [skipN, Act.put, List.drop_zero, List.setIfInBounds_toArray, List.set_cons_zero, List.set_cons_succ]
        iterate 9 (first
          | (refine wpAs_skip rfl ?_; simp only [Act.put, List.setIfInBounds_toArray, List.set_cons_zero, List.set_cons_succ])
          | (refine wpAs_pure (v := ?_) rfl rfl ?_ ?_; rotate_left; (intro W hC hE; clear hE; (obtain ⟨p3, p4⟩ := HP.out W hC; obtain ⟨y0, y1, y2, y3, y4⟩ := FYY.out W hC; obtain ⟨r0, r1, r2⟩ := HX0.out W hC); clear hC; go_simp; with_reducible rfl); simp only [Act.put, List.setIfInBounds_toArray, List.set_cons_zero, List.set_cons_succ]))
        refine wpAs_fixed rfl rfl rfl ?_ ?_
        · intro W hC hE
          refine does_enter (f := 41) (args := #[kyV y.1, kyV x.1]) ?_ ?_
          · go_simp
          · refine (refLess_any y.1 x.1 W).mono ?_
            (rintro e W' ⟨rfl, hg⟩; rw [hs.out])
            exact ⟨_, rfl, rfl, hg⟩
        simp only [Act.put, List.setIfInBounds_toArray, List.set_cons_zero, List.set_cons_succ]
        iterate 3 (first
          | (refine wpAs_skip rfl ?_; simp only [Act.put, List.setIfInBounds_toArray, List.set_cons_zero, List.set_cons_succ])
          | (refine wpAs_pure (v := ?_) rfl rfl ?_ ?_; rotate_left; (intro W hC hE; clear hE; skip; clear hC; go_simp; with_reducible rfl); simp only [Act.put, List.setIfInBounds_toArray, List.set_cons_zero, List.set_cons_succ]))
        refine wpAs_pure_jump (v := .bool true) 14 rfl rfl rfl ?_ (by kernel_rfl) ?_
        · intro W hC hE
          clear hE hC
          first
            | (go_simp; done)
            | (go_simp; simp; omega)
            | (go_simp; simp_all; done)
        simp only [skipN, Act.put, List.drop_succ_cons, List.drop_zero, List.setIfInBounds_toArray, List.set_cons_zero, List.set_cons_succ]
        iterate 1 (first
          | (refine wpAs_skip rfl ?_; simp only [Act.put, List.setIfInBounds_toArray, List.set_cons_zero, List.set_cons_succ])
          | (refine wpAs_pure (v := ?_) rfl rfl ?_ ?_; rotate_left; (intro W hC hE; clear hE; skip; clear hC; go_simp; with_reducible rfl); simp only [Act.put, List.setIfInBounds_toArray, List.set_cons_zero, List.set_cons_succ]))
        refine wpAs_end fun W hC hE => ?_
        have BF := Lib.hid (hB.out _ (B2.out.trans (hC.mono B2.out.size)))
        clear hE hC
        go_wp2_with fail
        go_ret
        exact ⟨ret_bool hr.out.symm, BF.out⟩
      · have hsucc := Lib.hid (show okAt n k = okP n.1 x by rw [hs0, hs]; simp)
        replace hs := Lib.hid hs
        replace hs0 := Lib.hid hs0
        refine wp_region_fx (by kernel_rfl) (fun W => Below w2.heap.size w2 W) (fun _ => none) (fun i => match i with
          | 1 => some (.bool true)
          | 16 => some (.bool true)
          | _ => none) (by kernel_rfl) (Below.refl _ _).drew (fun w w' h hb => h.trans (hb.mono h.size)) (fun j φ x W W' hp => by cases hp) ?_
        repeat (first
          | (refine wpAs_skip rfl ?_; simp only [Act.put, List.setIfInBounds_toArray, List.set_cons_zero, List.set_cons_succ])
          | (refine wpAs_pure (v := ?_) rfl rfl ?_ ?_; rotate_left; (intro W hC hE; clear hE; (obtain ⟨r0, r1, r2⟩ := HX0.out W hC; obtain ⟨r3, r4⟩ := HX.out W hC); clear hC; go_simp; done); simp only [Act.put, List.setIfInBounds_toArray, List.set_cons_zero, List.set_cons_succ])
          | (refine wpAs_pure (v := ?_) rfl rfl ?_ ?_; rotate_left; (intro W hC hE; clear hE; (obtain ⟨r0, r1, r2⟩ := HX0.out W hC; obtain ⟨r3, r4⟩ := HX.out W hC); clear hC; go_simp; with_reducible rfl); simp only [Act.put, List.setIfInBounds_toArray, List.set_cons_zero, List.set_cons_succ]))
        refine wpAs_fixed rfl rfl rfl ?_ ?_
        · intro W hC hE
          refine does_enter (f := 40) (args := #[.agg #[.int .u8 (x.1.1.toNat : Int), .int .u32 x.1.2.1, .int .u32 x.1.2.2, .int .i64 x.2.1, .slice E x.2.2.length ce]]) ?_ ?_
          · go_simp
          · refine (refMayI_any _ x W (HI.out W hC)).mono ?_
            (rintro e W' ⟨rfl, hg⟩; rw [hmx.out])
            exact ⟨_, rfl, rfl, hg⟩
        simp only [Act.put, List.setIfInBounds_toArray, List.set_cons_zero, List.set_cons_succ]
        iterate 4 (first
          | (refine wpAs_skip rfl ?_; simp only [Act.put, List.setIfInBounds_toArray, List.set_cons_zero, List.set_cons_succ])
          | (refine wpAs_pure (v := ?_) rfl rfl ?_ ?_; rotate_left; (intro W hC hE; clear hE; skip; clear hC; go_simp; with_reducible rfl); simp only [Act.put, List.setIfInBounds_toArray, List.set_cons_zero, List.set_cons_succ]))
        refine wpAs_pure_jump (v := .bool true) 0 rfl rfl rfl ?_ (by kernel_rfl) ?_
        · intro W hC hE
          clear hE hC
          first
            | (go_simp; done)
            | (go_simp; simp; omega)
            | (go_simp; simp_all; done)
        simp only [skipN, Act.put, List.drop_zero, List.setIfInBounds_toArray, List.set_cons_zero, List.set_cons_succ]
        iterate 9 (first
          | (refine wpAs_skip rfl ?_; simp only [Act.put, List.setIfInBounds_toArray, List.set_cons_zero, List.set_cons_succ])
          | (refine wpAs_pure (v := ?_) rfl rfl ?_ ?_; rotate_left; (intro W hC hE; clear hE; (obtain ⟨p3, p4⟩ := HP.out W hC; obtain ⟨y0, y1, y2, y3, y4⟩ := FYY.out W hC; obtain ⟨r0, r1, r2⟩ := HX0.out W hC); clear hC; go_simp; with_reducible rfl); simp only [Act.put, List.setIfInBounds_toArray, List.set_cons_zero, List.set_cons_succ]))
        refine wpAs_fixed rfl rfl rfl ?_ ?_
        · intro W hC hE
          refine does_enter (f := 41) (args := #[kyV y.1, kyV x.1]) ?_ ?_
          · go_simp
          · refine (refLess_any y.1 x.1 W).mono ?_
            (rintro e W' ⟨rfl, hg⟩; rw [hs.out])
            exact ⟨_, rfl, rfl, hg⟩
        simp only [Act.put, List.setIfInBounds_toArray, List.set_cons_zero, List.set_cons_succ]
        iterate 3 (first
          | (refine wpAs_skip rfl ?_; simp only [Act.put, List.setIfInBounds_toArray, List.set_cons_zero, List.set_cons_succ])
          | (refine wpAs_pure (v := ?_) rfl rfl ?_ ?_; rotate_left; (intro W hC hE; clear hE; skip; clear hC; go_simp; with_reducible rfl); simp only [Act.put, List.setIfInBounds_toArray, List.set_cons_zero, List.set_cons_succ]))
        iterate 4 (first
          | (refine wpAs_skip rfl ?_; simp only [Act.put, List.setIfInBounds_toArray, List.set_cons_zero, List.set_cons_succ])
          | (refine wpAs_pure (v := ?_) rfl rfl ?_ ?_; rotate_left; (intro W hC hE; clear hE; (obtain ⟨p3, p4⟩ := HP.out W hC); clear hC; go_simp; with_reducible rfl); simp only [Act.put, List.setIfInBounds_toArray, List.set_cons_zero, List.set_cons_succ]))
        by_cases h7 : l ≤ 0
        · have h7' : ¬ (0 : Int) < l := by omega
          have hall := Lib.hid (hstep.out (by rw [hsucc.out, okP, hmx.out, hl.out]; simp [h7]))
          refine wpAs_pure_jump (v := .bool false) 9 rfl rfl rfl ?_ (by kernel_rfl) ?_
          · intro W hC hE
            clear hE hC
            first
              | (go_simp; done)
              | (go_simp; simp; omega)
              | (go_simp; simp_all; done)
          simp only [skipN, Act.put, List.drop_succ_cons, List.drop_zero, List.setIfInBounds_toArray, List.set_cons_zero, List.set_cons_succ]
          iterate 2 (first
            | (refine wpAs_skip rfl ?_; simp only [Act.put, List.setIfInBounds_toArray, List.set_cons_zero, List.set_cons_succ])
            | (refine wpAs_pure (v := ?_) rfl rfl ?_ ?_; rotate_left; (intro W hC hE; clear hE; skip; clear hC; go_simp; with_reducible rfl); simp only [Act.put, List.setIfInBounds_toArray, List.set_cons_zero, List.set_cons_succ]))
          refine wpAs_end fun W hC hE => ?_
          have BW := Lib.hid (B2.out.trans (hC.mono B2.out.size))
          clear hE hC
          go_wp2_with fail
          go_roundw
          case rel => exact ⟨k + 1, by omega, by go_num, hall.out, BW.out⟩
          case measure => simp [intOf]; omega
        · have h7' : (0 : Int) < l := by omega
          refine wpAs_pure_jump (v := .bool true) 0 rfl rfl rfl ?_ (by kernel_rfl) ?_
          · intro W hC hE
            clear hE hC
            first
              | (go_simp; done)
              | (go_simp; simp; omega)
              | (go_simp; simp_all; done)
          simp only [skipN, Act.put, List.drop_zero, List.setIfInBounds_toArray, List.set_cons_zero, List.set_cons_succ]
          iterate 3 (first
            | (refine wpAs_skip rfl ?_; simp only [Act.put, List.setIfInBounds_toArray, List.set_cons_zero, List.set_cons_succ])
            | (refine wpAs_pure (v := ?_) rfl rfl ?_ ?_; rotate_left; (intro W hC hE; clear hE; (obtain ⟨p3, p4⟩ := HP.out W hC; obtain ⟨r3, r4⟩ := HX.out W hC); clear hC; go_simp; with_reducible rfl); simp only [Act.put, List.setIfInBounds_toArray, List.set_cons_zero, List.set_cons_succ]))
          by_cases h8 : x.2.1 = 0
          · have h8' : (x.2.1 == 0) = true := by simpa using h8
            have hr := Lib.hid (hbk.out (okAt_noP hx.out (by rw [okP, hmx.out, hl.out, refersI]; simp [h8]; omega)))
            replace h8 := Lib.hid h8
            refine wpAs_pure_jump (v := .bool true) 4 rfl rfl rfl ?_ (by kernel_rfl) ?_
            · intro W hC hE
              clear hE hC
              first
                | (go_simp; done)
                | (go_simp; simp; omega)
                | (go_simp; simp_all; done)
            simp only [skipN, Act.put, List.drop_succ_cons, List.drop_zero, List.setIfInBounds_toArray, List.set_cons_zero, List.set_cons_succ]
            iterate 3 (first
              | (refine wpAs_skip rfl ?_; simp only [Act.put, List.setIfInBounds_toArray, List.set_cons_zero, List.set_cons_succ])
              | (refine wpAs_pure (v := ?_) rfl rfl ?_ ?_; rotate_left; (intro W hC hE; clear hE; skip; clear hC; go_simp; with_reducible rfl); simp only [Act.put, List.setIfInBounds_toArray, List.set_cons_zero, List.set_cons_succ]))
            refine wpAs_end fun W hC hE => ?_
            have BF := Lib.hid (hB.out _ (B2.out.trans (hC.mono B2.out.size)))
            clear hE hC
            go_wp2_with fail
            go_ret
            exact ⟨ret_bool hr.out.symm, BF.out⟩
          · have h8' : (x.2.1 == 0) = false := by simpa using h8
            by_cases h9 : x.2.2.length = 0
            · have h9' : ¬ (0 : Int) < (x.2.2.length : Int) := by omega
              have hall := Lib.hid (hstep.out (by rw [hsucc.out, okP, hmx.out, refersI]; simp [h8, h9]))
              replace h8 := Lib.hid h8
              replace h9 := Lib.hid h9
              refine wpAs_pure_jump (v := .bool false) 0 rfl rfl rfl ?_ (by kernel_rfl) ?_
              · intro W hC hE
                clear hE hC
                first
                  | (go_simp; done)
                  | (go_simp; simp; omega)
                  | (go_simp; simp_all; done)
              simp only [skipN, Act.put, List.drop_zero, List.setIfInBounds_toArray, List.set_cons_zero, List.set_cons_succ]
              iterate 7 (first
                | (refine wpAs_skip rfl ?_; simp only [Act.put, List.setIfInBounds_toArray, List.set_cons_zero, List.set_cons_succ])
                | (refine wpAs_pure (v := ?_) rfl rfl ?_ ?_; rotate_left; (intro W hC hE; clear hE; (obtain ⟨r3, r4⟩ := HX.out W hC); clear hC; go_simp; with_reducible rfl); simp only [Act.put, List.setIfInBounds_toArray, List.set_cons_zero, List.set_cons_succ]))
              refine wpAs_end fun W hC hE => ?_
              have BW := Lib.hid (B2.out.trans (hC.mono B2.out.size))
              clear hE hC
              go_wp2_with fail
              go_roundw
              case rel => exact ⟨k + 1, by omega, by go_num, hall.out, BW.out⟩
              case measure => simp [intOf]; omega
            · have h9' : (0 : Int) < (x.2.2.length : Int) := by omega
              have hr := Lib.hid (hbk.out (okAt_noP hx.out (by rw [okP, hmx.out, hl.out, refersI]; simp [h9]; omega)))
              replace h8 := Lib.hid h8
              replace h9 := Lib.hid h9
              refine wpAs_pure_jump (v := .bool false) 0 rfl rfl rfl ?_ (by kernel_rfl) ?_
              · intro W hC hE
                clear hE hC
                first
                  | (go_simp; done)
                  | (go_simp; simp; omega)
                  | (go_simp; simp_all; done)
              simp only [skipN, Act.put, List.drop_zero, List.setIfInBounds_toArray, List.set_cons_zero, List.set_cons_succ]
              iterate 7 (first
                | (refine wpAs_skip rfl ?_; simp only [Act.put, List.setIfInBounds_toArray, List.set_cons_zero, List.set_cons_succ])
                | (refine wpAs_pure (v := ?_) rfl rfl ?_ ?_; rotate_left; (intro W hC hE; clear hE; (obtain ⟨r3, r4⟩ := HX.out W hC); clear hC; go_simp; with_reducible rfl); simp only [Act.put, List.setIfInBounds_toArray, List.set_cons_zero, List.set_cons_succ]))
              refine wpAs_end fun W hC hE => ?_
              have BF := Lib.hid (hB.out _ (B2.out.trans (hC.mono B2.out.size)))
              clear hE hC
              go_wp2_with fail
              go_ret
              exact ⟨ret_bool hr.out.symm, BF.out⟩

end Go.Proofs.YtmdlgnlfgfhkmaaGreat

/-
  The document's answers of layer 6: told, Block, Write. Conditions: those that each lemma states.
-/
namespace Go.Proofs.YtmdlgnlfgfhkmaaGreat
open Go.RowKit

set_option maxRecDepth 100000 in
set_option maxHeartbeats 4000000 in
theorem refTold_ok (v : Value) (n : Nd) (w : World) (h : Nod (Old w) w v n) (hm : mayN n = true) :
    Calls Tryz.prog 64 #[v] w fun e w' => ∃ u, e = .returned u ∧ rBy (New w.heap.size w') w' [u] (toldN n) ∧ Below w.heap.size w w' := by
  obtain ⟨A, c, rfl, hin, l1, m1, hA⟩ := h.open
  obtain ⟨w1, hw1, b0, hs0, hB0⟩ := box_pair' w (.int .i64 n.1) (.slice A n.2.length c) 31
  obtain ⟨f1, f2, _, lt1⟩ := two_cells b0
  have HA := Lib.hid hA
  have B1 := Lib.hid hB0
  replace hs0 := Lib.hid hs0
  clear h hA hB0 b0 hin
  have hmay := Lib.hid hm
  obtain ⟨⟨s1, s2, s3, _⟩, _⟩ := mayN_of hm
  obtain ⟨m, hmm⟩ : ∃ m, n.2.length = m := ⟨_, rfl⟩
  have hu1 := u8_small s1 (by omega)
  have hu2 := u8_small (l := (n.2.length : Int)) (by omega) (by omega)
  have hhead := Lib.hid (show headN n = [78, UInt8.ofNat n.1.toNat, UInt8.ofNat n.2.length] from rfl)
  rw [Int.toNat_natCast] at hu2
  rw [hmm] at l1 f2 hw1 HA s3 hu2 hhead ⊢
  obtain ⟨l, hl⟩ : ∃ l, n.1 = l := ⟨_, rfl⟩
  rw [hl] at f1 hw1 s1 s2 hu1 hhead ⊢
  replace hl := Lib.hid hl
  replace hmm := Lib.hid hmm
  clear hm
  obtain ⟨w2, hw2, own2, hb2, hs2⟩ := lit_own3 w1 78 (UInt8.ofNat l.toNat) (UInt8.ofNat m) 78 l m rfl hu1.1 hu2.1
  rw [← hhead.out] at own2
  have q1 := hu1.2
  have q2 := hu2.2
  have lt2 : w.heap.size < w2.heap.size := Nat.lt_of_lt_of_le lt1 hb2.size
  have hb2' := Lib.hid hb2
  replace own2 := Lib.hid own2
  replace hu1 := Lib.hid hu1
  replace hu2 := Lib.hid hu2
  replace hs2 := Lib.hid hs2
  clear hb2
  go_enter Tryz.func64, Tryz.ntmps64
  go_upto_region 1 with fail
  clear hw1
  go_upto_region 2 with fail
  clear hw2
  go_wp2_with fail
  go_loopw [3, 4] (fun b i wr => ∃ k : Nat, k ≤ m ∧ i = .int .i64 k ∧ wr.ownsRow w1.heap.size 5 1 b (3 + (itsB (n.2.take k)).length) (u8s (headN n ++ itsB (n.2.take k))) ∧ Below w1.heap.size w1 wr) (fun _ i _ => m - (intOf i).toNat)
  case atStart => exact ⟨0, by omega, rfl, by simpa [itsB] using own2.out, hb2'.out⟩
  case round =>
    obtain ⟨k, hk, rfl, hown, hb⟩ := hrel
    replace hb := Lib.hid hb
    have h63 := itsB_take_len hmay.out k
    obtain ⟨B, cb, rfl, c1, c2, hby⟩ := own_byt hown
    have BF := Lib.hid (B1.out.trans (hb.out.mono B1.out.size))
    have p4 := (hb.out.cell (p := ⟨w.heap.size, 1, none⟩) lt1).trans f2
    by_cases hlt : k < m
    case neg =>
      have hkm : Hid (n.2.take k = n.2) := Lib.hid (List.take_of_length_le (by rw [hmm.out]; omega))
      rw [hkm.out] at hown c1 ⊢
      have hfin := Lib.hid (show rBy (New w.heap.size wr) wr [.slice B (3 + (itsB n.2).length) cb] (toldN n) from stab_by.mono (own_by hown) B1.out.size)
      obtain ⟨q, hq⟩ : ∃ q, 3 + (itsB n.2).length = q := ⟨_, rfl⟩
      rw [hq] at hfin c1 ⊢
      clear hown hq hby
      go_wp2_with fail
      go_ret
      exact ⟨_, rfl, hfin.out, BF.out⟩
    obtain ⟨x, hx⟩ : ∃ x, n.2[k]? = some x := ⟨_, List.getElem?_eq_getElem (by rw [hmm.out]; exact hlt)⟩
    obtain ⟨ad, E, ce, rfl, _, _, hinx, FX⟩ := its_old HA.out hx
    obtain ⟨⟨z0, z1, z2, z3, z4⟩, hIx⟩ := FX wr BF.out
    have HI := Lib.hid hIx
    have hmx := Lib.hid (okP_may (mayN_item hmay.out hx))
    have htk := Lib.hid (itsB_take hx)
    have hlx := Lib.hid (show (itB x).length ≤ 24 by have := (mayI_of hmx.out).2; rw [itB_length]; omega)
    have HO := Lib.hid hown
    have i1 : (0 : Int) ≤ (k : Int) := by omega
    have i2 : (k : Int) < (m : Int) := by omega
    replace hx := Lib.hid hx
    clear FX hinx hIx hown hby
    unfold itV at *
    go_wp2_with fail
    with_reducible refine (refBytes_ok _ x _ HI.out hmx.out).mono ?_
    rintro e4 w4 ⟨u, rfl, hu, hb4⟩
    obtain ⟨U, cu, rfl, _, _, hyu⟩ := rBy_byt (B := w4.heap.size) (fun p hp => hp.2.1) hu
    have B4 := hb.out.trans (hb4.mono hb.out.size)
    obtain ⟨v5, w5, hr5, o5, ba5⟩ := app_own_byt _ (3 + (itsB (n.2.take k)).length) (itB x).length cu _ (itB x) U w1.heap.size w4 (own_below HO.out hb4) hyu rfl (by have := hlx.out; omega) B4.size
    have B5 := Lib.hid (B4.trans ba5)
    have H5 := Lib.hid hr5
    have o5' := Lib.hid (show w5.ownsRow w1.heap.size 5 1 v5 (3 + (itsB (n.2.take (k + 1))).length) (u8s (headN n ++ itsB (n.2.take (k + 1)))) by
      rw [htk.out, List.length_append, ← List.append_assoc, ← Nat.add_assoc]
      exact o5)
    clear hu hb4 hyu hr5 o5 ba5 B4
    go_wp2_with (at_builtin; refine wpList_append_run rfl _ _ _ rfl rfl rfl H5.out ?_; clear H5)
    go_roundw
    case rel => exact ⟨k + 1, by omega, by go_num, o5'.out, B5.out⟩
    case measure => simp [intOf]; omega

set_option maxRecDepth 100000 in
set_option maxHeartbeats 2000000 in
theorem refBlockN_ok (v : Value) (n : Nd) (w : World) (h : Nod (Old w) w v n) (hm : mayN n = true) :
    Calls Tryz.prog 44 #[v] w fun e w' => ∃ u, e = .returned u ∧ rBy (New w.heap.size w') w' [u] (blkN n) ∧ Below w.heap.size w w' := by
  obtain ⟨d, rfl, _⟩ := id h
  obtain ⟨w0, hw0, b0, hs0, hB0⟩ := box_pair' w (.int .i64 n.1) d 31
  obtain ⟨f1, f2, _, _⟩ := two_cells b0
  have H0 := Lib.hid (h.below hB0)
  have HB0 := Lib.hid hB0
  have hl := toldN_len hm
  replace hm := Lib.hid hm
  replace hs0 := Lib.hid hs0
  clear hB0 b0 h
  go_enter Tryz.func44, Tryz.ntmps44
  go_upto_region 1 with fail
  clear hw0
  go_wp2_with fail
  with_reducible refine (refTold_ok _ n _ H0.out hm.out).mono ?_
  rintro e1 w1 ⟨u, rfl, hu, hb1⟩
  obtain ⟨U, cu, rfl, g1, g2, hyu⟩ := rBy_byt (B := w1.heap.size) (fun p hp => hp.2.1) hu
  obtain ⟨q, hq⟩ : ∃ q, (toldN n).length = q := ⟨_, rfl⟩
  rw [hq] at g1 hl ⊢
  replace hq := Lib.hid hq
  have B1 := Lib.hid (HB0.out.trans (hb1.mono HB0.out.size))
  have HY := Lib.hid hyu
  clear hu hb1 hyu
  go_wp2_with fail
  with_reducible refine (sealed_ref U q cu (toldN n) hq hl g1 g2 _ HY.out).mono ?_
  rintro e2 w2 ⟨u2, rfl, ho, hb2⟩
  have BF := Lib.hid (B1.out.trans (hb2.mono B1.out.size))
  have hfin := Lib.hid (show rBy (New w.heap.size w2) w2 [u2] (blkN n) from stab_by.mono (own_by ho) B1.out.size)
  clear hb2 ho
  go_wp2_with fail
  go_ret
  exact ⟨_, rfl, hfin.out, BF.out⟩

end Go.Proofs.YtmdlgnlfgfhkmaaGreat

/-
  The document's answers of layer 6: same (bytes with noughts behind); what a block tells, plain. Conditions: those that each lemma states.
-/
namespace Go.Proofs.YtmdlgnlfgfhkmaaGreat
open Go.RowKit

def samAt (b t : List UInt8) (i : Nat) : Bool := if i < t.length then b[i]?.getD 0 == t[i]?.getD 0 else b[i]?.getD 0 == 0
def samB (b t : List UInt8) : Bool := (List.range b.length).all (samAt b t) && decide (t.length ≤ b.length)
theorem samB_no {b t : List UInt8} {k : Nat} (hk : k < b.length) (h : samAt b t k = false) : samB b t = false := by
  cases e : samB b t with
  | false => rfl
  | true =>
    simp only [samB, Bool.and_eq_true, List.all_eq_true] at e
    have := e.1 k (by simpa using hk)
    rw [h] at this
    cases this
theorem samB_end {b t : List UInt8} (h : ∀ k, k < b.length → samAt b t k = true) : samB b t = decide (t.length ≤ b.length) := by
  have : (List.range b.length).all (samAt b t) = true := by
    rw [List.all_eq_true]
    exact fun x hx => h x (by simpa using hx)
  rw [samB, this, Bool.true_and]
theorem samB_of {b t : List UInt8} (h : samB b t = true) : ∃ r, noughtsB r = true ∧ b = t ++ r := by
  simp only [samB, Bool.and_eq_true, List.all_eq_true, decide_eq_true_eq] at h
  obtain ⟨h1, h2⟩ := h
  have h3 : ∀ i, i < b.length → samAt b t i = true := fun i hi => h1 i (by simpa using hi)
  refine ⟨b.drop t.length, ?_, ?_⟩
  · unfold noughtsB
    rw [List.all_eq_true]
    intro x hx
    obtain ⟨j, hj⟩ := List.mem_iff_getElem?.1 hx
    rw [List.getElem?_drop] at hj
    have := h3 (t.length + j) (List.getElem?_eq_some_iff.1 hj).1
    unfold samAt at this
    rw [if_neg (by omega), hj] at this
    simpa using this
  · apply List.ext_getElem?
    intro i
    rcases Nat.lt_or_ge i t.length with hi | hi
    · rw [List.getElem?_append_left hi]
      have := h3 i (by omega)
      unfold samAt at this
      rw [if_pos hi, List.getElem?_eq_getElem hi, List.getElem?_eq_getElem (show i < b.length by omega)] at this
      rw [List.getElem?_eq_getElem hi, List.getElem?_eq_getElem (show i < b.length by omega)]
      simpa using this
    · rw [List.getElem?_append_right hi, List.getElem?_drop]
      congr 1
      omega
theorem samB_mk {t r : List UInt8} (h : noughtsB r = true) : samB (t ++ r) t = true := by
  have h2 : ∀ i, samAt (t ++ r) t i = true := fun i => by
    unfold samAt
    split
    · rename_i hi
      rw [List.getElem?_append_left hi]
      simp
    · rename_i hi
      rw [List.getElem?_append_right (by omega), noughts_zeros h]
      unfold zeros
      rw [List.getElem?_replicate]
      split <;> simp
  rw [samB_end fun i _ => h2 i]
  simp

set_option maxRecDepth 100000 in
set_option maxHeartbeats 4000000 in
theorem refSamN_any (A B : Option Addr) (n c m d : Nat) (b t : List UInt8) (hn : Hid (b.length = n)) (hm : Hid (t.length = m)) (l1 : n ≤ c) (m1 : c ≤ 9223372036854775807) (_ : m ≤ d) (_ : d ≤ 9223372036854775807) (w : World) (hb : Byt w w.heap.size A b) (ht : Byt w w.heap.size B t) :
    Calls Tryz.prog 95 #[.slice A n c, .slice B m d] w fun e w' => e = .returned (.bool (samB b t)) ∧ Below w.heap.size w w' := by
  have HB := Lib.hid hb
  have HT := Lib.hid ht
  clear hb ht
  have hdef := Lib.hid (fun (k : Nat) (hk : k < b.length) (h : samAt b t k = false) => samB_no hk h)
  have hend := Lib.hid (fun h => samB_end (b := b) (t := t) h)
  go_enter Tryz.func95, Tryz.ntmps95
  go_wp2_with fail
  go_loopw [5] (fun i wr => ∃ k : Nat, k ≤ n ∧ i = .int .i64 k ∧ (∀ j, j < k → samAt b t j = true) ∧ Below w.heap.size w wr) (fun i _ => n - (intOf i).toNat)
  case atStart => exact ⟨0, by omega, rfl, fun j hj => by omega, Below.refl _ _⟩
  case round =>
    obtain ⟨k, hk, rfl, ha, hbw⟩ := hrel
    replace ha := Lib.hid ha
    replace hbw := Lib.hid hbw
    by_cases hlt : k < n
    · obtain ⟨ad, rfl, _, hc⟩ := (HB.out.below hbw.out) (by rw [hn.out]; omega)
      replace hc := hc k (by rw [hn.out]; exact hlt)
      have hbad := Lib.hid (hdef.out k (by rw [hn.out]; exact hlt))
      have hstep : Hid (samAt b t k = true → ∀ j, j < k + 1 → samAt b t j = true) := Lib.hid fun h j hj => by
        rcases Nat.lt_or_ge j k with h1 | h1
        · exact ha.out j h1
        · obtain rfl : j = k := by omega
          exact h
      have hat : samAt b t k = if k < t.length then b[k]?.getD 0 == t[k]?.getD 0 else b[k]?.getD 0 == 0 := rfl
      rw [hm.out] at hat
      have i1 : (0 : Int) ≤ (k : Int) := by omega
      have i2 : (k : Int) < (n : Int) := by omega
      obtain ⟨x, hx⟩ : ∃ x, b[k]?.getD 0 = x := ⟨_, rfl⟩
      rw [hx] at hc hat
      replace hx := Lib.hid hx
      by_cases hkm : k < m
      · obtain ⟨bd, rfl, _, hc2⟩ := (HT.out.below hbw.out) (by rw [hm.out]; omega)
        replace hc2 := hc2 k (by rw [hm.out]; exact hkm)
        obtain ⟨y, hy⟩ : ∃ y, t[k]?.getD 0 = y := ⟨_, rfl⟩
        rw [hy] at hc2 hat
        replace hy := Lib.hid hy
        rw [if_pos hkm] at hat
        have i3 : (k : Int) < (m : Int) := by omega
        by_cases e : x = y
        · have hall := Lib.hid (hstep.out (by rw [hat, e]; simp))
          clear hat
          subst e
          have he : ((x.toNat : Int) != (x.toNat : Int)) = false := by simp
          go_wp2_with fail
          have i5 : decide (m ≤ k) = false := by simp; omega
          go_quiet (fail)
          go_wp2_with fail
          go_roundw
          case rel => exact ⟨k + 1, by omega, by go_num, hall.out, below_drewN hbw.out _⟩
          case measure => simp [intOf]; omega
        · have he : ((x.toNat : Int) != (y.toNat : Int)) = true := by
            have : x.toNat ≠ y.toNat := fun h => e (UInt8.toNat.inj h)
            simp
            omega
          have hr := Lib.hid (hbad.out (by rw [hat]; simpa using e))
          replace e := Lib.hid e
          clear hat
          go_wp2_with fail
          go_quiet (fail)
          go_wp2_with fail
          go_ret
          exact ⟨ret_bool hr.out.symm, below_drewN hbw.out _⟩
      · rw [if_neg hkm] at hat
        have i3 : ¬ (k : Int) < (m : Int) := by omega
        have i4 : (m : Int) ≤ (k : Int) := by omega
        by_cases e : x = 0
        · have he : ((x.toNat : Int) != 0) = false := by rw [e]; rfl
          have hall := Lib.hid (hstep.out (by rw [hat, e]; rfl))
          replace e := Lib.hid e
          clear hat
          go_wp2_with fail
          go_quiet (fail)
          go_wp2_with fail
          go_roundw
          case rel => exact ⟨k + 1, by omega, by go_num, hall.out, below_drewN hbw.out _⟩
          case measure => simp [intOf]; omega
        · have he : ((x.toNat : Int) != 0) = true := by
            have : x.toNat ≠ 0 := fun h => e (UInt8.toNat.inj h)
            simp
            omega
          have hr := Lib.hid (hbad.out (by rw [hat]; simpa using e))
          replace e := Lib.hid e
          clear hat
          go_wp2_with fail
          go_quiet (fail)
          go_wp2_with fail
          go_ret
          exact ⟨ret_bool hr.out.symm, below_drewN hbw.out _⟩
    · have hr := Lib.hid (hend.out fun j hj => ha.out j (by have := hn.out; omega))
      rw [hn.out, hm.out] at hr
      by_cases h9 : m ≤ n
      · have i3 : (m : Int) ≤ (n : Int) := by omega
        have hr2 := Lib.hid (show samB b t = true by rw [hr.out]; simpa using h9)
        go_wp2_with fail
        go_ret
        exact ⟨ret_bool hr2.out.symm, hbw.out⟩
      · have i3 : ¬ (m : Int) ≤ (n : Int) := by omega
        have hr2 := Lib.hid (show samB b t = false by rw [hr.out]; simpa using h9)
        go_wp2_with fail
        go_ret
        exact ⟨ret_bool hr2.out.symm, hbw.out⟩

/-! ### What the document's reading takes for a node -/
def capN (bd : List UInt8) : Nat := min (manyN bd) 6
def ndR (bd : List UInt8) : Nd := (lvlN bd, cutL (bd.drop 3) (capN bd))
def rdR (bd : List UInt8) : Bool := (cutTo (bd.drop 3) (capN bd)).isSome && (mayN (ndR bd) && samB bd (toldN (ndR bd)))
theorem rdR_eq {bd : List UInt8} (h124 : bd.length = 124) : rdR bd = rdN bd ∧ (rdR bd = true → ndR bd = ndN bd) := by
  by_cases hm : manyN bd ≤ 6
  · have hc : capN bd = manyN bd := by unfold capN; omega
    have hnd : ndR bd = ndN bd := by unfold ndR ndN; rw [hc]
    refine ⟨?_, fun _ => hnd⟩
    unfold rdR rdN
    rw [hnd, hc]
    cases hct : cutTo (bd.drop 3) (manyN bd) with
    | none => simp
    | some p =>
      obtain ⟨l, r⟩ := p
      have hL : cutL (bd.drop 3) (manyN bd) = l := by simp [cutL, hct]
      have hR : cutR (bd.drop 3) (manyN bd) = r := by simp [cutR, hct]
      obtain ⟨c1, c2, _⟩ := cutTo_bytes hct
      rw [hR]
      have hT : toldN (ndN bd) = [78, bd[1]?.getD 0, bd[2]?.getD 0] ++ itsB l := by
        rw [ndN, hL, told_parts, c2]
        have e1 : UInt8.ofNat (lvlN bd).toNat = bd[1]?.getD 0 := by simp [lvlN]
        have e2 : UInt8.ofNat (manyN bd) = bd[2]?.getD 0 := by simp [manyN]
        show [78, UInt8.ofNat (lvlN bd).toNat, UInt8.ofNat (manyN bd)] ++ itsB l = _
        rw [e1, e2]
      have hsplit : bd = [bd[0]?.getD 0, bd[1]?.getD 0, bd[2]?.getD 0] ++ bd.drop 3 := by
        match bd, h124 with
        | x :: y :: z :: q, _ => simp
      have key : samB bd (toldN (ndN bd)) = (decide (bd[0]?.getD 0 = 78) && noughtsB r) := by
        rw [Bool.eq_iff_iff, Bool.and_eq_true, decide_eq_true_iff]
        constructor
        · intro h
          obtain ⟨r', hr', e⟩ := samB_of h
          rw [hT] at e
          have h0 : bd[0]?.getD 0 = 78 := by rw [e]; rfl
          refine ⟨h0, ?_⟩
          have h1 : bd.drop 3 = itsB l ++ r' := by rw [e]; rfl
          rw [c1] at h1
          have := List.append_cancel_left h1
          rw [this]
          exact hr'
        · rintro ⟨h0, hr⟩
          have e : bd = toldN (ndN bd) ++ r := by
            rw [hT, List.append_assoc, ← c1, ← h0]
            exact hsplit
          have := samB_mk (t := toldN (ndN bd)) hr
          rwa [← e] at this
      rw [key]
      cases decide (bd[0]?.getD 0 = 78) <;> cases noughtsB r <;> cases mayN (ndN bd) <;> rfl
  · have hc : capN bd = 6 := by unfold capN; omega
    have h1 : rdR bd = false := by
      unfold rdR
      rw [hc]
      cases hct : cutTo (bd.drop 3) 6 with
      | none => rfl
      | some p =>
        obtain ⟨l, r⟩ := p
        have hL : cutL (bd.drop 3) 6 = l := by simp [cutL, hct]
        obtain ⟨_, c2, _⟩ := cutTo_bytes hct
        have : mayN (ndR bd) = false := mayN_shape (fun hh => by
          have := hh.2.2.1
          rw [ndR, hc, hL] at this
          simp only at this
          omega)
        rw [this]
        rfl
    have h2 : rdN bd = false := by
      unfold rdN
      cases hct : cutTo (bd.drop 3) (manyN bd) with
      | none => simp
      | some p =>
        obtain ⟨l, r⟩ := p
        have hL : cutL (bd.drop 3) (manyN bd) = l := by simp [cutL, hct]
        obtain ⟨_, c2, _⟩ := cutTo_bytes hct
        have : mayN (ndN bd) = false := mayN_shape (fun hh => by
          have := hh.2.2.1
          rw [ndN, hL] at this
          simp only at this
          omega)
        rw [this]
        simp
    exact ⟨by rw [h1, h2], fun h => by rw [h1] at h; cases h⟩
end Go.Proofs.YtmdlgnlfgfhkmaaGreat

/-
  The document's answers of layer 6: Read. Conditions: those that each lemma states.
-/
namespace Go.Proofs.YtmdlgnlfgfhkmaaGreat
open Go.RowKit

theorem reN_ref {b : List UInt8} (h : oe b = 0) : reN b = (if rdR (ob b) then 0 else 8) ∧ reV b = (if rdR (ob b) then ndR (ob b) else zeroN) := by
  obtain ⟨_, _, _, h124⟩ := oe_zeroN h
  obtain ⟨e1, e2⟩ := rdR_eq h124
  cases e : rdR (ob b) with
  | true => exact ⟨(reN_good h (by rw [← e1, e])).1, by rw [(reN_good h (by rw [← e1, e])).2, ← e2 e]; rfl⟩
  | false => exact ⟨(reN_bad h (by rw [← e1, e])).1, (reN_bad h (by rw [← e1, e])).2⟩

set_option maxRecDepth 100000 in
set_option maxHeartbeats 8000000 in
theorem refReadN_any (v : Value) (b : List UInt8) (w : World) (h : rBy (Old w) w [v] b) :
    Calls Tryz.prog 82 #[v] w fun e w' => ∃ u, e = .returned (.tuple #[u, .int .i64 (reN b)]) ∧ Nod (New w.heap.size w') w' u (reV b) ∧ Below w.heap.size w w' := by
  obtain ⟨A, c, rfl, l1, m1, hy⟩ := rBy_byt (B := w.heap.size) (fun p hp => hp) h
  obtain ⟨n, hn⟩ : ∃ n, b.length = n := ⟨_, rfl⟩
  rw [hn] at l1 ⊢
  replace hn := Lib.hid hn
  obtain ⟨w0, hw0, b0, hs0, hB0⟩ := box_pair' w (.int .i64 0) (.slice none 0 0) 31
  have lt0 : w.heap.size < w0.heap.size := by omega
  have HB0 := Lib.hid hB0
  have HY := Lib.hid ((hy.below hB0).more hB0.size)
  have hzero : Hid (∀ (er : Int) (W : World), reN b = er ∧ reV b = zeroN → Below w0.heap.size w0 W → ∃ W9, (W.setCell ⟨w.heap.size, 0, none⟩ (.int .i64 0)).setCell ⟨w.heap.size, 1, none⟩ (.slice none 0 0) = W9 ∧ W9.cell? ⟨w.heap.size, 0, none⟩ = some (.int .i64 0) ∧ W9.cell? ⟨w.heap.size, 1, none⟩ = some (.slice none 0 0) ∧ (∀ o, W.frozen? ⟨w.heap.size, o, none⟩ = false) ∧ W.cell? ⟨w.heap.size, 0, none⟩ = some (.int .i64 0) ∧ W.cell? ⟨w.heap.size, 1, none⟩ = some (.slice none 0 0) ∧
      (∃ u, Ending.returned (.tuple #[.agg #[.int .i64 0, .slice none 0 0], .int .i64 er]) = .returned (.tuple #[u, .int .i64 (reN b)]) ∧ Nod (New w.heap.size W9) W9 u (reV b) ∧ Below w.heap.size w W9)) := Lib.hid fun er W hre hW => by
    have bW := (hW.block w.heap.size lt0).trans b0
    obtain ⟨W9, e9, g9, gr9, gs9⟩ := put_two (u := .int .i64 0) (v := .slice none 0 0) bW
    obtain ⟨k0, k1, kf, _⟩ := two_cells g9
    obtain ⟨y0, y1, yf, _⟩ := two_cells bW
    have hBW := HB0.out.trans (hW.mono HB0.out.size)
    exact ⟨W9, e9, k0, k1, yf, y0, y1, _, by rw [hre.1], by rw [hre.2]; exact nod_zero _ _, hBW.grown gr9 hBW.size (fun q e => by cases e; omega)⟩
  replace b0 := Lib.hid b0
  replace hw0 := Lib.hid hw0
  clear hB0 hs0 h hy
  go_enter Tryz.func82, Tryz.ntmps82
  go_upto_region 1 with fail
  rw [hw0.out]
  clear hw0
  go_wp2_with fail
  with_reducible refine (openRef_any A n c b hn l1 m1 _ HY.out).mono ?_
  rintro e1 w1 ⟨v1, rfl, ho1, hb1⟩
  have B1 := Lib.hid hb1
  have hBW1 := Lib.hid (show w.heap.size ≤ w1.heap.size from Nat.le_trans (Nat.le_of_lt lt0) hb1.size)
  obtain ⟨er, hoe⟩ : ∃ er, oe b = er := ⟨_, rfl⟩
  rw [hoe]
  by_cases h0 : er = 0
  case neg =>
    have t0 : (er != 0) = true := by simpa using h0
    obtain ⟨W9, e9, k0, k1, yf, y0, y1, hfin⟩ := hzero.out er w1 (by rw [← hoe]; exact reN_open (by rw [hoe]; exact h0)) B1.out
    replace hfin := Lib.hid hfin
    replace h0 := Lib.hid h0
    replace hoe := Lib.hid hoe
    clear ho1 hb1
    go_wp2_with fail
    exact bodyPost_ret (v := .tuple #[.agg #[.int .i64 0, .slice none 0 0], .int .i64 er]) (by simp [results, Tryz.results82, go_sem, k0, k1]) rfl hfin.out
  subst h0
  obtain ⟨hlen, hfits, hob, hl124⟩ := oe_zeroN hoe
  have hre := reN_ref hoe
  have hr1 := own_by ho1
  obtain ⟨bd, hbd⟩ : ∃ bd, ob b = bd := ⟨_, rfl⟩
  rw [hbd] at hr1 hre hl124
  have HZ : Hid (∀ W, rdR bd = false → Below w0.heap.size w0 W → _) := Lib.hid (fun W h hW => hzero.out 8 W (by rw [hre.1, hre.2, h]; exact ⟨rfl, rfl⟩) hW)
  have HG : Hid (rdR bd = true → reN b = 0 ∧ reV b = ndR bd) := Lib.hid (fun h => by rw [hre.1, hre.2, h]; exact ⟨rfl, rfl⟩)
  replace hbd := Lib.hid hbd
  obtain ⟨Q, cq, rfl, n1, n2, hcell⟩ := rBy_open hr1
  rw [hl124] at n1 hcell hr1 ⊢
  obtain ⟨ad, rfl, hn0, hc0⟩ := hcell 0 (by omega)
  obtain ⟨_, e, hn1', hc1⟩ := hcell 1 (by omega)
  cases e
  obtain ⟨_, e, hn2', hc2⟩ := hcell 2 (by omega)
  cases e
  have z0 : w1.cell? ad = some (.int .u8 ((bd[0]?.getD 0).toNat : Int)) := by simpa [Addr.add] using hc0
  have z1 : w1.cell? ⟨ad.block, ad.off + 1, none⟩ = some (.int .u8 ((bd[1]?.getD 0).toNat : Int)) := by simpa [Addr.add] using hc1
  have z2 : w1.cell? ⟨ad.block, ad.off + 2, none⟩ = some (.int .u8 ((bd[2]?.getD 0).toNat : Int)) := by simpa [Addr.add] using hc2
  have ltb : ad.block < w1.heap.size := World.block_lt_of_cell? _ _ z0
  have hbody := Lib.hid (stab_by.drop hr1)
  have hrest := rBy_rest hbody.out 3 (by omega)
  have had3 : ad.add 3 = ⟨ad.block, ad.off + 3, none⟩ := by simp [Addr.add]
  rw [had3] at hrest
  replace hrest : Hid (rBy (Old w1) w1 [.slice (some ⟨ad.block, ad.off + 3, none⟩) 121 (cq - 3)] (bd.drop 3)) := Lib.hid hrest
  have hl := Lib.hid hl124
  replace hoe := Lib.hid hoe
  clear hre hfits hob hlen hc0 hc1 hc2 hn0 hn1' hn2' ho1 hb1 hcell hl124 hzero hr1 z0
  have hrd : Hid (rdR bd = ((cutTo (bd.drop 3) (capN bd)).isSome && (mayN (ndR bd) && samB bd (toldN (ndR bd))))) := Lib.hid rfl
  obtain ⟨lv, hlv⟩ : ∃ lv, lvlN bd = lv := ⟨_, rfl⟩
  have hlin := lvlN_in bd
  rw [hlv] at hlin
  have z1' : w1.cell? ⟨ad.block, ad.off + 1, none⟩ = some (.int .u8 lv) := by rw [← hlv]; exact z1
  have hlw : IntKind.i64.wrap lv = lv := IntWalk.i64_in _ ⟨hlin.1, hlin.2⟩
  obtain ⟨mn, hmn⟩ : ∃ m, manyN bd = m := ⟨_, rfl⟩
  have hmlt := manyN_lt bd
  rw [hmn] at hmlt
  have hcap := Lib.hid (show capN bd = min mn 6 by rw [← hmn]; rfl)
  have z2' : w1.cell? ⟨ad.block, ad.off + 2, none⟩ = some (.int .u8 (mn : Int)) := by rw [← hmn]; exact z2
  have hwm : IntKind.i64.wrap (mn : Int) = (mn : Int) := IntWalk.i64_in _ (by omega)
  replace hmn := Lib.hid hmn
  replace hlv := Lib.hid hlv
  replace hlin := Lib.hid hlin
  obtain ⟨w2, hw2, g2, hs2, hB2⟩ := box_pair' w1 (.int .i64 lv) (.slice none 0 0) 31
  obtain ⟨e20, e21, e22, lt2⟩ := two_cells g2
  obtain ⟨w3, hw3, g3, gr3, gs3⟩ := put_snd (u := .slice none 0 0) g2
  have hB3 := Lib.hid (hB2.grown gr3 hB2.size (fun q e => by cases e; omega))
  have s23 := Lib.hid gs3
  replace g3 := Lib.hid g3
  replace hs2 := Lib.hid hs2
  have c3 : ¬ cq = 3 := by omega
  have c4 : (3 : Int) ≤ cq := by omega
  clear z1 z2 gr3 gs3
  go_upto_region 5 with fail
  clear hw2 hw3 e20 e21 e22 z1'
  go_wp2_with fail
  go_loopw [7, 8] (fun q i wr => ∃ (k : Nat) (l : List It) (r : List UInt8) (A1 : Option Addr) (c1 : Nat), k ≤ min mn 6 ∧ i = .int .i64 k ∧ l.length = k ∧ cutTo (bd.drop 3) k = some (l, r) ∧ rBy (Old w1) w1 [q] r ∧ wr.heap[w1.heap.size]? = some (.cells #[.int .i64 lv, .slice A1 k c1] 31 (0, 0)) ∧ RowOf rIt 5 52 w3.heap.size wr A1 c1 l ∧ Below w1.heap.size w1 wr ∧ w3.heap.size ≤ wr.heap.size) (fun _ i _ => 7 - (intOf i).toNat)
  case atStart => exact ⟨0, [], bd.drop 3, none, 0, by omega, rfl, rfl, rfl, hrest.out, g3.out, RowOf.nil _ _ _ _ _, hB3.out, Nat.le_refl _⟩
  case round =>
    obtain ⟨k, l, r, A1, c1, hk, rfl, hll, hcut, hq, hz, hrow, hb, hsz⟩ := hrel
    obtain ⟨r2, r3, r4, r5⟩ := two_cells hz
    have y2 := (hb.cell (p := ⟨ad.block, ad.off + 2, none⟩) ltb).trans z2'
    replace hrow := Lib.hid hrow
    replace hcut := Lib.hid hcut
    replace hll := Lib.hid hll
    have hz' := Lib.hid hz
    replace hb := Lib.hid hb
    obtain ⟨R0, cr, rfl, n3, n4, _⟩ := id (rBy_open hq)
    obtain ⟨nq, hnq⟩ : ∃ n, r.length = n := ⟨_, rfl⟩
    rw [hnq] at n3 hq ⊢
    replace hnq := Lib.hid hnq
    replace hq := Lib.hid hq
    have hqr := Lib.hid (stab_by.old hq.out hb.out)
    have BR := Lib.hid (B1.out.trans (hb.out.mono B1.out.size))
    clear hz
    by_cases hlt : k < mn ∧ k ≤ 5
    case neg =>
      have hcapk : capN bd = k := by rw [hcap.out]; omega
      by_cases hlt1 : k < mn
      · have i1 : (k : Int) < mn := by omega
        have i2 : ¬ (k : Int) ≤ 5 := by omega
        have hL := Lib.hid (show cutL (bd.drop 3) (capN bd) = l by rw [hcapk]; simp [cutL, hcut.out])
        have hsome := Lib.hid (show (cutTo (bd.drop 3) (capN bd)).isSome = true by rw [hcapk, hcut.out]; rfl)
        have hnd := Lib.hid (show ndR bd = (lv, l) by rw [ndR, hL.out, hlv.out])
        have hN0 : Nod (New w3.heap.size wr) wr (.agg #[.int .i64 lv, .slice A1 k c1]) (lv, l) := ⟨_, rfl, hlin.out, by
          have h1 := hrow.out.rel stab_it
          rwa [hll.out] at h1⟩
        have HN0 := Lib.hid hN0
        replace hcapk := Lib.hid hcapk
        clear hN0
        go_wp2_with fail
        with_reducible refine (refMayN_any _ (lv, l) _ HN0.out.drop).mono ?_
        rintro e5 w5 ⟨rfl, hb5⟩
        have B5 := Lib.hid (BR.out.trans (hb5.mono BR.out.size))
        have HN5 := Lib.hid (HN0.out.new (Nat.le_refl _) hb5)
        have t2 := (hb5.cell (p := ⟨w1.heap.size, 0, none⟩) r5).trans r2
        have t3 := (hb5.cell (p := ⟨w1.heap.size, 1, none⟩) r5).trans r3
        have t5 : w1.heap.size < w5.heap.size := Nat.lt_of_lt_of_le r5 hb5.size
        have C5 := Lib.hid (hb.out.trans (hb5.mono hb.out.size))
        clear hb5 r2 r3 r4 y2
        rcases bool_two (mayN (lv, l)) with hm | hm
        · obtain ⟨W9, e9, k0, k1, yf, u0, u1, hfin⟩ := HZ.out w5 (by rw [hrd.out, hnd.out, hm]; simp) B5.out
          replace hfin := Lib.hid hfin
          rw [hm]
          replace hm := Lib.hid hm
          go_wp2_with fail
          exact bodyPost_ret (v := .tuple #[.agg #[.int .i64 0, .slice none 0 0], .int .i64 8]) (by simp [results, Tryz.results82, go_sem, k0, k1]) rfl hfin.out
        rw [hm]
        have hm' := Lib.hid hm
        clear hm
        go_wp2_with fail
        with_reducible refine (refTold_ok _ (lv, l) _ HN5.out.drop hm'.out).mono ?_
        rintro e6 w6 ⟨u6, rfl, hu6, hb6⟩
        obtain ⟨U, cu, rfl, g6, g6', hyu⟩ := rBy_byt (B := w6.heap.size) (fun p hp => hp.2.1) hu6
        obtain ⟨tl, htl⟩ : ∃ q, (toldN (lv, l)).length = q := ⟨_, rfl⟩
        rw [htl] at g6 ⊢
        replace htl := Lib.hid htl
        have B6 := Lib.hid (B5.out.trans (hb6.mono B5.out.size))
        have C6 := Lib.hid (C5.out.trans (hb6.mono C5.out.size))
        have HN6 := Lib.hid (HN5.out.new (Nat.le_refl _) hb6)
        have s2 := (hb6.cell (p := ⟨w1.heap.size, 0, none⟩) t5).trans t2
        have s3 := (hb6.cell (p := ⟨w1.heap.size, 1, none⟩) t5).trans t3
        have s5 : w1.heap.size < w6.heap.size := Nat.lt_of_lt_of_le t5 hb6.size
        have HYU := Lib.hid hyu
        have HYB : Hid (Byt w6 w6.heap.size (some ad) bd) := Lib.hid (by
          obtain ⟨_, _, e, _, _, h⟩ := rBy_byt (B := w6.heap.size) (fun p hp => hp) (stab_by.old hbody.out C6.out)
          rw [hl.out] at e
          cases e
          exact h)
        clear hu6 hb6 hyu t2 t3 t5
        go_wp2_with fail
        with_reducible refine (refSamN_any (some ad) U 124 cq tl cu bd (toldN (lv, l)) hl htl n1 n2 g6 g6' _ HYB.out HYU.out).mono ?_
        rintro e7 w7 ⟨rfl, hb7⟩
        have B7 := Lib.hid (B6.out.trans (hb7.mono B6.out.size))
        have HN7 := Lib.hid (HN6.out.new (Nat.le_refl _) hb7)
        have t2 := (hb7.cell (p := ⟨w1.heap.size, 0, none⟩) s5).trans s2
        have t3 := (hb7.cell (p := ⟨w1.heap.size, 1, none⟩) s5).trans s3
        clear hb7 s2 s3
        rcases bool_two (samB bd (toldN (lv, l))) with hz | hz
        · obtain ⟨W9, e9, k0, k1, yf, u0, u1, hfin⟩ := HZ.out w7 (by rw [hrd.out, hnd.out, hz]; simp) B7.out
          replace hfin := Lib.hid hfin
          rw [hz]
          replace hz := Lib.hid hz
          go_wp2_with fail
          exact bodyPost_ret (v := .tuple #[.agg #[.int .i64 0, .slice none 0 0], .int .i64 8]) (by simp [results, Tryz.results82, go_sem, k0, k1]) rfl hfin.out
        · have hgood := Lib.hid (HG.out (by rw [hrd.out, hnd.out, hz, hm'.out, hsome.out]; rfl))
          have bW := (B7.out.block w.heap.size lt0).trans b0.out
          obtain ⟨W9, e9, g9, gr9, gs9⟩ := put_two (u := .int .i64 lv) (v := .slice A1 k c1) bW
          obtain ⟨k0, k1, kf, _⟩ := two_cells g9
          obtain ⟨u0, u1, yf, _⟩ := two_cells bW
          have hBW := HB0.out.trans (B7.out.mono HB0.out.size)
          have hlt3 : w.heap.size < w3.heap.size := Nat.lt_of_lt_of_le lt0 (Nat.le_trans B1.out.size hB3.out.size)
          have hfin : Hid (Nod (New w.heap.size W9) W9 (.agg #[.int .i64 lv, .slice A1 k c1]) (reV b) ∧ Below w.heap.size w W9) := Lib.hid ⟨by
            rw [hgood.out.2, hnd.out]
            exact (HN7.out.grown gr9 (fun q e => by cases e; exact hlt3)).map fun p v hp hc => ⟨⟨Nat.le_trans (Nat.le_of_lt hlt3) hp.1, hp.2⟩, hc⟩, hBW.grown gr9 hBW.size (fun q e => by cases e; omega)⟩
          rw [hz]
          replace hz := Lib.hid hz
          replace bW := Lib.hid bW
          replace g9 := Lib.hid g9
          clear gr9
          go_wp2_with fail
          exact bodyPost_ret (v := .tuple #[.agg #[.int .i64 lv, .slice A1 k c1], .int .i64 0]) (by simp [results, Tryz.results82, go_sem, k0, k1]) rfl ⟨_, by rw [hgood.out.1], hfin.out.1, hfin.out.2⟩
      · have i1 : ¬ (k : Int) < mn := by omega
        have hL := Lib.hid (show cutL (bd.drop 3) (capN bd) = l by rw [hcapk]; simp [cutL, hcut.out])
        have hsome := Lib.hid (show (cutTo (bd.drop 3) (capN bd)).isSome = true by rw [hcapk, hcut.out]; rfl)
        have hnd := Lib.hid (show ndR bd = (lv, l) by rw [ndR, hL.out, hlv.out])
        have hN0 : Nod (New w3.heap.size wr) wr (.agg #[.int .i64 lv, .slice A1 k c1]) (lv, l) := ⟨_, rfl, hlin.out, by
          have h1 := hrow.out.rel stab_it
          rwa [hll.out] at h1⟩
        have HN0 := Lib.hid hN0
        replace hcapk := Lib.hid hcapk
        clear hN0
        go_wp2_with fail
        with_reducible refine (refMayN_any _ (lv, l) _ HN0.out.drop).mono ?_
        rintro e5 w5 ⟨rfl, hb5⟩
        have B5 := Lib.hid (BR.out.trans (hb5.mono BR.out.size))
        have HN5 := Lib.hid (HN0.out.new (Nat.le_refl _) hb5)
        have t2 := (hb5.cell (p := ⟨w1.heap.size, 0, none⟩) r5).trans r2
        have t3 := (hb5.cell (p := ⟨w1.heap.size, 1, none⟩) r5).trans r3
        have t5 : w1.heap.size < w5.heap.size := Nat.lt_of_lt_of_le r5 hb5.size
        have C5 := Lib.hid (hb.out.trans (hb5.mono hb.out.size))
        clear hb5 r2 r3 r4 y2
        rcases bool_two (mayN (lv, l)) with hm | hm
        · obtain ⟨W9, e9, k0, k1, yf, u0, u1, hfin⟩ := HZ.out w5 (by rw [hrd.out, hnd.out, hm]; simp) B5.out
          replace hfin := Lib.hid hfin
          rw [hm]
          replace hm := Lib.hid hm
          go_wp2_with fail
          exact bodyPost_ret (v := .tuple #[.agg #[.int .i64 0, .slice none 0 0], .int .i64 8]) (by simp [results, Tryz.results82, go_sem, k0, k1]) rfl hfin.out
        rw [hm]
        have hm' := Lib.hid hm
        clear hm
        go_wp2_with fail
        with_reducible refine (refTold_ok _ (lv, l) _ HN5.out.drop hm'.out).mono ?_
        rintro e6 w6 ⟨u6, rfl, hu6, hb6⟩
        obtain ⟨U, cu, rfl, g6, g6', hyu⟩ := rBy_byt (B := w6.heap.size) (fun p hp => hp.2.1) hu6
        obtain ⟨tl, htl⟩ : ∃ q, (toldN (lv, l)).length = q := ⟨_, rfl⟩
        rw [htl] at g6 ⊢
        replace htl := Lib.hid htl
        have B6 := Lib.hid (B5.out.trans (hb6.mono B5.out.size))
        have C6 := Lib.hid (C5.out.trans (hb6.mono C5.out.size))
        have HN6 := Lib.hid (HN5.out.new (Nat.le_refl _) hb6)
        have s2 := (hb6.cell (p := ⟨w1.heap.size, 0, none⟩) t5).trans t2
        have s3 := (hb6.cell (p := ⟨w1.heap.size, 1, none⟩) t5).trans t3
        have s5 : w1.heap.size < w6.heap.size := Nat.lt_of_lt_of_le t5 hb6.size
        have HYU := Lib.hid hyu
        have HYB : Hid (Byt w6 w6.heap.size (some ad) bd) := Lib.hid (by
          obtain ⟨_, _, e, _, _, h⟩ := rBy_byt (B := w6.heap.size) (fun p hp => hp) (stab_by.old hbody.out C6.out)
          rw [hl.out] at e
          cases e
          exact h)
        clear hu6 hb6 hyu t2 t3 t5
        go_wp2_with fail
        with_reducible refine (refSamN_any (some ad) U 124 cq tl cu bd (toldN (lv, l)) hl htl n1 n2 g6 g6' _ HYB.out HYU.out).mono ?_
        rintro e7 w7 ⟨rfl, hb7⟩
        have B7 := Lib.hid (B6.out.trans (hb7.mono B6.out.size))
        have HN7 := Lib.hid (HN6.out.new (Nat.le_refl _) hb7)
        have t2 := (hb7.cell (p := ⟨w1.heap.size, 0, none⟩) s5).trans s2
        have t3 := (hb7.cell (p := ⟨w1.heap.size, 1, none⟩) s5).trans s3
        clear hb7 s2 s3
        rcases bool_two (samB bd (toldN (lv, l))) with hz | hz
        · obtain ⟨W9, e9, k0, k1, yf, u0, u1, hfin⟩ := HZ.out w7 (by rw [hrd.out, hnd.out, hz]; simp) B7.out
          replace hfin := Lib.hid hfin
          rw [hz]
          replace hz := Lib.hid hz
          go_wp2_with fail
          exact bodyPost_ret (v := .tuple #[.agg #[.int .i64 0, .slice none 0 0], .int .i64 8]) (by simp [results, Tryz.results82, go_sem, k0, k1]) rfl hfin.out
        · have hgood := Lib.hid (HG.out (by rw [hrd.out, hnd.out, hz, hm'.out, hsome.out]; rfl))
          have bW := (B7.out.block w.heap.size lt0).trans b0.out
          obtain ⟨W9, e9, g9, gr9, gs9⟩ := put_two (u := .int .i64 lv) (v := .slice A1 k c1) bW
          obtain ⟨k0, k1, kf, _⟩ := two_cells g9
          obtain ⟨u0, u1, yf, _⟩ := two_cells bW
          have hBW := HB0.out.trans (B7.out.mono HB0.out.size)
          have hlt3 : w.heap.size < w3.heap.size := Nat.lt_of_lt_of_le lt0 (Nat.le_trans B1.out.size hB3.out.size)
          have hfin : Hid (Nod (New w.heap.size W9) W9 (.agg #[.int .i64 lv, .slice A1 k c1]) (reV b) ∧ Below w.heap.size w W9) := Lib.hid ⟨by
            rw [hgood.out.2, hnd.out]
            exact (HN7.out.grown gr9 (fun q e => by cases e; exact hlt3)).map fun p v hp hc => ⟨⟨Nat.le_trans (Nat.le_of_lt hlt3) hp.1, hp.2⟩, hc⟩, hBW.grown gr9 hBW.size (fun q e => by cases e; omega)⟩
          rw [hz]
          replace hz := Lib.hid hz
          replace bW := Lib.hid bW
          replace g9 := Lib.hid g9
          clear gr9
          go_wp2_with fail
          exact bodyPost_ret (v := .tuple #[.agg #[.int .i64 lv, .slice A1 k c1], .int .i64 0]) (by simp [results, Tryz.results82, go_sem, k0, k1]) rfl ⟨_, by rw [hgood.out.1], hfin.out.1, hfin.out.2⟩
    obtain ⟨hlt1, hlt2⟩ := hlt
    have i1 : (k : Int) < mn := by omega
    have i2 : (k : Int) ≤ 5 := by omega
    go_wp2_with fail
    with_reducible refine (refReadI_any _ r _ hqr.out).mono ?_
    rintro e3 w4 ⟨u3, rfl, hu3, hb3⟩
    obtain ⟨D, dc, rfl, hin, _, _, hby⟩ := id hu3.open
    obtain ⟨w5, hw5, s0, s1, s2, s3, s4, hs4, hb4, b4⟩ := box_five w4 (.int .u8 ((itR r).1.1.toNat : Int)) (.int .u32 (itR r).1.2.1) (.int .u32 (itR r).1.2.2) (.int .i64 (itR r).2.1) (.slice D (itR r).2.2.length dc) 52
    have C4 := Lib.hid (hb3.trans (hb4.mono hb3.size))
    have B4 := Lib.hid (hb.out.trans (C4.out.mono hb.out.size))
    have hI4 := Lib.hid (hu3.new (Nat.le_refl _) hb4)
    obtain ⟨x, hx⟩ : ∃ x, itR r = x := ⟨_, rfl⟩
    rw [hx] at hin s0 s1 s2 s3 s4 b4 hI4 hw5 ⊢
    replace hs4 := Lib.hid hs4
    replace hx := Lib.hid hx
    have x3 := (C4.out.cell (p := ⟨w1.heap.size, 1, none⟩) r5).trans r3
    clear hb3 hb4 hu3 hby r2 r3 r4
    unfold itV at *
    go_upto_region 10 with fail
    clear hw5
    rcases bool_ways (okR r) with hok | hok
    · have hE := Lib.hid (show itE r = 8 by simp [itE, hok])
      have hno := Lib.hid (cutTo_none (cutTo_no hcut.out hok) (show k + 1 ≤ capN bd by rw [hcap.out]; omega))
      obtain ⟨W9, e9, k0, k1, yf, u0, u1, hfin⟩ := HZ.out w5 (by rw [hrd.out, hno.out]; rfl) (B1.out.trans (B4.out.mono B1.out.size))
      replace hfin := Lib.hid hfin
      rw [hE.out]
      replace hok := Lib.hid hok
      go_wp2_with fail
      exact bodyPost_ret (v := .tuple #[.agg #[.int .i64 0, .slice none 0 0], .int .i64 8]) (by simp [results, Tryz.results82, go_sem, k0, k1]) rfl hfin.out
    have hE := Lib.hid (show itE r = 0 by simp [itE, hok])
    obtain ⟨m, hm1, hm2, hm3, hm4⟩ := read_itB hok
    have hyes := cutTo_yes hcut.out hok
    rw [hm1, show ((m : Int)).toNat = m by omega, hx.out] at hyes
    have hrl : 12 ≤ nq := by have := okC_yes (okR_fields hok).1; have := hnq.out; omega
    rw [hnq.out] at hm2
    rw [hE.out, hm1]
    replace hyes := Lib.hid hyes
    replace hok := Lib.hid hok
    clear hm1 hm3 hm4
    obtain ⟨w6, hw6, _, _, _, _, _, hs5, hb5, b5⟩ := box_five w5 (.int .u8 (x.1.1.toNat : Int)) (.int .u32 x.1.2.1) (.int .u32 x.1.2.2) (.int .i64 x.2.1) (.slice D x.2.2.length dc) 52
    have C5 := C4.out.trans (hb5.mono C4.out.size)
    have hI5 := hI4.out.new (Nat.le_refl _) hb5
    have hx5 : rBy (NewBut w3.heap.size A1 w6) w6 [.slice D x.2.2.length dc] x.2.2 := by
      obtain ⟨d, e, _, hd⟩ := hI5
      have ed : d = .slice D x.2.2.length dc := by injection e with e; simpa using e.symm
      subst ed
      exact stab_by _ _ _ _ _ _ (fun p v hp hc => ⟨hrow.out.but (Nat.le_refl _) hsz hp, hc⟩) hd
    have row5 := RowOf.below stab_it hrow.out C5
    obtain ⟨A2, c2, w7, hr2, row7, _, ba7⟩ := its_push row5 w5.heap.size x _ 1 k hll.out b5 (by omega) (Nat.le_trans hsz C5.size) hin hx5
    have s23' := s23.out
    have lt12 : w1.heap.size < w3.heap.size := by omega
    have g7 := (ba7.block w1.heap.size lt12).trans ((C5.block w1.heap.size r5).trans hz'.out)
    obtain ⟨w8, hw8, g8, gr8, gs8⟩ := put_snd (u := .slice A2 (k + 1) c2) g7
    have row8 := Lib.hid (RowOf.grown stab_it row7 gr8 (fun q e => by cases e; omega))
    have hb7 : Below w1.heap.size w1 w7 := (hb.out.trans (C5.mono hb.out.size)).trans (ba7.mono (Nat.le_of_lt lt12))
    have hb8 := Lib.hid (hb7.grown gr8 hb7.size (fun q e => by cases e; omega))
    have sz8 := Lib.hid (show w3.heap.size ≤ w8.heap.size by rw [gs8]; exact Nat.le_trans (Nat.le_trans hsz C5.size) ba7.size)
    obtain ⟨y5, y6, y7, y8⟩ := two_cells g7
    have H2 := Lib.hid hr2
    have hll2 := Lib.hid (show (l ++ [x]).length = k + 1 by simp [hll.out])
    obtain ⟨qa, rfl⟩ : ∃ qa, R0 = some qa := by
      obtain ⟨_, _, e, _, _, h4⟩ := rBy_open hq.out
      cases e
      obtain ⟨qa, e, _⟩ := h4 0 (by have := hnq.out; omega)
      exact ⟨qa, e⟩
    have hrest2 := Lib.hid (rBy_rest hq.out m (by rw [hnq.out]; exact hm2))
    have hnil : Hid (m = nq → ∀ ok, rBy ok w1 [.slice (some qa) 0 0] (r.drop m)) := Lib.hid fun e ok => by
      rw [List.drop_of_length_le (by rw [hnq.out]; omega)]
      exact rBy_part0 _ _ _
    replace hs5 := Lib.hid hs5
    replace b5 := Lib.hid b5
    replace hI5 := Lib.hid hI5
    replace g8 := Lib.hid g8
    replace g7 := Lib.hid g7
    clear hr2 row7 gr8 ba7 hb7 gs8 hx5 row5 C5 hb5 hin s23'
    have d1 : (0 : Int) ≤ (m : Int) := by omega
    have d2 : (m : Int) ≤ cr := by omega
    have d3 : (m : Int) ≤ nq := by omega
    by_cases hmc : m = cr
    · go_wp2_with (at_builtin; refine wpList_append_run rfl _ _ _ rfl rfl rfl H2.out ?_; clear H2)
      go_roundw
      case rel => exact ⟨k + 1, l ++ [x], r.drop m, A2, c2, by omega, by go_num, hll2.out, hyes.out, hnil.out (by omega) _, g8.out, row8.out, hb8.out, sz8.out⟩
      case measure => simp [intOf]; omega
    · go_wp2_with (at_builtin; refine wpList_append_run rfl _ _ _ rfl rfl rfl H2.out ?_; clear H2)
      go_roundw
      case rel => exact ⟨k + 1, l ++ [x], r.drop m, A2, c2, by omega, by go_num, hll2.out, hyes.out, hrest2.out, g8.out, row8.out, hb8.out, sz8.out⟩
      case measure => simp [intOf]; omega
end Go.Proofs.YtmdlgnlfgfhkmaaGreat

/-
  The document's answers of layer 8: Read, Node. Conditions: those that each lemma states.
-/
namespace Go.Proofs.YtmdlgnlfgfhkmaaGreat
open Go.RowKit

theorem reV_zero {b : List UInt8} (h : reN b ≠ 0) : reV b = zeroN := by
  unfold reN at h
  unfold reV
  by_cases h0 : oe b = 0
  · rw [if_pos h0] at h ⊢
    by_cases h1 : rdN (ob b) = true
    · rw [if_pos h1] at h; exact absurd rfl h
    · rw [if_neg h1]
  · rw [if_neg h0]
theorem reN_ways {b : List UInt8} (hb : b.length = 128) : reN b = 0 ∨ reN b = 8 := by
  unfold reN
  by_cases h0 : oe b = 0
  · rw [if_pos h0]
    by_cases h1 : rdN (ob b) = true
    · rw [if_pos h1]; exact .inl rfl
    · rw [if_neg h1]; exact .inr rfl
  · rw [if_neg h0]
    unfold oe at h0 ⊢
    rw [if_pos hb] at h0 ⊢
    split
    · rename_i h; rw [if_pos h] at h0; exact absurd rfl h0
    · exact .inr rfl
theorem seen_128 {d : Dk} {k : Nat} (hm : mayB d = true) (hk : k < 256) : (seenD d k).length = 128 := by
  obtain ⟨h1, _, h3, h4⟩ := may_of hm
  unfold seenD
  have e : d.1[k]? = some (d.1[k]'(by omega)) := List.getElem?_eq_getElem _
  refine seenW_length (h3 k _ (by rw [e]; rfl)) fun x hx => ?_
  obtain ⟨i, hi⟩ := List.getElem?_of_mem hx
  exact (h4 i x hi).2.2
set_option maxRecDepth 100000 in
set_option maxHeartbeats 4000000 in
theorem refReadR_ok (v : Value) (s : Rm) (k : Nat) (ha : asE s (k : Int) = 0) (w : World) (h : Sto (Old w) w v s) :
    Calls Tryz.prog 68 #[v, .int .i64 k] w fun e w' => ∃ u, e = .returned (.tuple #[u, .bool (reN (seenD s.1 k) == 0)]) ∧ Nod (New w.heap.size w') w' u (reV (seenD s.1 k)) ∧ Below w.heap.size w w' := by
  obtain ⟨k', hk', hm, h8, h256, -, -, -, -, hx0⟩ := as_read ha
  obtain rfl : k' = k := by omega
  obtain ⟨A, ca, B, cb, N, cn, L, cl, rfl, _, _, _⟩ := h.open
  obtain ⟨w1, hw1, f1, f2, hsz, hB⟩ : ∃ w1, (w.alloc (.cells #[.slice A s.1.1.length ca, .slice B s.1.2.length cb, .slice N s.2.1.length cn, .slice L s.2.2.length cl] 28)).alloc (.cells #[.int .i64 0, .slice none 0 0] 31) = w1 ∧
      w1.heap[w.heap.size]? = some (.cells #[.slice A s.1.1.length ca, .slice B s.1.2.length cb, .slice N s.2.1.length cn, .slice L s.2.2.length cl] 28 (0, 0)) ∧ w1.heap[w.heap.size + 1]? = some (.cells #[.int .i64 0, .slice none 0 0] 31 (0, 0)) ∧ w1.heap.size = w.heap.size + 2 ∧ Below w.heap.size w w1 := by
    refine ⟨_, rfl, alloc_block (heap_alloc_new _ _), ?_, by simp, ((Below.refl _ w).alloc (Nat.le_refl _) _).alloc (by simp) _⟩
    have := heap_alloc_new (w.alloc (.cells #[.slice A s.1.1.length ca, .slice B s.1.2.length cb, .slice N s.2.1.length cn, .slice L s.2.2.length cl] 28)) (.cells #[.int .i64 0, .slice none 0 0] 31)
    rwa [World.size_alloc] at this
  have H := Lib.hid (h.below hB)
  clear h hk'
  obtain ⟨k0, k1, k2, k3, _, kg⟩ := four_cells f1
  obtain ⟨ad, bd, rfl, rfl, hl1, hl2, _, _, had, _, hc⟩ := tables_at hm H.out.parts.2.1 H.out.parts.2.2
  have q1 := (hc k' h256).1
  obtain ⟨x, hx⟩ : ∃ x, s.2.1[k']?.getD 0 = x := ⟨_, rfl⟩
  rw [hx] at q1 hx0
  have t0 := byte_unlike (y := 0) (q := 0) rfl hx0
  have i1 : ¬ (k' : Int) < 8 := by omega
  have i2 : ¬ 256 ≤ (k' : Int) := by omega
  have i3 : k' < s.2.1.length := by omega
  have hk1 : Hid (k' < s.1.1.length) := Lib.hid (by have := (may_of (mayR_of hm).1).1; omega)
  obtain ⟨b, hb⟩ : ∃ b, seenD s.1 k' = b := ⟨_, rfl⟩
  rw [hb]
  obtain ⟨q, hq⟩ : ∃ q, reN b = q := ⟨_, rfl⟩
  obtain ⟨V, hV⟩ : ∃ V, reV b = V := ⟨_, rfl⟩
  rw [hq, hV]
  replace hsz := Lib.hid hsz
  replace f1 := Lib.hid f1
  replace f2 := Lib.hid f2
  replace hx := Lib.hid hx
  replace hl1 := Lib.hid hl1
  replace hl2 := Lib.hid hl2
  replace hb := Lib.hid hb
  replace hq := Lib.hid hq
  replace hV := Lib.hid hV
  clear hc hx0 ha hm
  go_enter Tryz.func68, Tryz.ntmps68
  go_upto_region 1 with fail
  clear hw1
  go_wp2_with fail
  with_reducible refine (refSeen_any _ s.1 k' hk1.out _ H.out.parts.1).mono ?_
  rintro e w2 ⟨u2, rfl, h2, hb2⟩
  rw [hb.out] at h2
  have U2 := Lib.hid (stab_by.old h2 hb2)
  have B2 := Lib.hid (hB.trans (hb2.mono hB.size))
  have F2 := Lib.hid ((hb2.block (w.heap.size + 1) (by rw [hsz.out]; omega)).trans f2.out)
  have s2 : Hid (w.heap.size + 2 ≤ w2.heap.size) := Lib.hid (by have := hb2.size; have := hsz.out; omega)
  clear h2 hb2 k0 k1 k2 k3 kg q1 H
  go_wp2_with fail
  with_reducible refine (refReadN_any _ b _ U2.out).mono ?_
  rintro e w3 ⟨u3, rfl, h3, hb3⟩
  rw [hq.out]
  rw [hV.out] at h3
  obtain ⟨P, pc, rfl, _⟩ := id h3.open
  have F3 := (hb3.block (w.heap.size + 1) (by have := s2.out; omega)).trans F2.out
  obtain ⟨w4, hw4, g4, hs4, hb4⟩ := box_pair' w3 (.int .i64 V.1) (.slice P V.2.length pc) 31
  have F4 := (hb4.block (w.heap.size + 1) (by have := s2.out; have := hb3.size; omega)).trans F3
  have N4 := h3.new (Nat.le_refl _) hb4
  have B4 := B2.out.trans ((hb3.trans (hb4.mono hb3.size)).mono B2.out.size)
  obtain ⟨m0, m1, _, _⟩ := two_cells g4
  obtain ⟨c0, c1, c2, c3⟩ := two_cells F4
  obtain ⟨W9, hW9, g9, gr9, gs9⟩ := put_two (u := .int .i64 V.1) (v := .slice P V.2.length pc) F4
  obtain ⟨n0, n1, _, _⟩ := two_cells g9
  have r2 := s2.out
  have l2 := B2.out.size
  have hfin := Lib.hid (show Nod (New w.heap.size W9) W9 (.agg #[.int .i64 V.1, .slice P V.2.length pc]) V from (N4.grown gr9 (fun q e => by cases e; omega)).new l2 (Below.refl _ _))
  have hB9 := Lib.hid (B4.grown gr9 B4.size (fun q e => by cases e; omega))
  replace F4 := Lib.hid F4
  replace F3 := Lib.hid F3
  replace g4 := Lib.hid g4
  replace g9 := Lib.hid g9
  replace hs4 := Lib.hid hs4
  clear gr9 gs9 N4 h3 hb3 hb4 B4 r2 l2
  go_upto_region 4 with fail
  clear hw4
  go_wp2_with fail
  refine bodyPost_ret (v := .tuple #[.agg #[.int .i64 V.1, .slice P V.2.length pc], .bool (q == 0)]) (by simp [results, Tryz.results68, go_sem, n0, n1]) rfl ?_
  exact ⟨_, rfl, hfin.out, hB9.out⟩

end Go.Proofs.YtmdlgnlfgfhkmaaGreat

/-
  Package count: sides, and what is written on them, plain; checkSide, firstOf. Conditions: those that each lemma states.
-/
namespace Go.Proofs.YtmdlgnlfgfhkmaaGreat
open Go.RowKit

def sideB (s : Int) : Bool := decide (s = 0) || decide (s = 1)
def csE (d : Dk) (s : Int) : Int := if mayB d then (if sideB s then 0 else 2) else 8
/-- What Write tells, and leaves. -/
def cwE (d : Dk) (s : Int) (t : List UInt8) : Int := if mayB d then (if sideB s then (if mayT t then (if wErr d (4 + 2 * s) (t.take 128) = 0 then wErr (wrR d (4 + 2 * s) (t.take 128)) (5 + 2 * s) (t.drop 128) else wErr d (4 + 2 * s) (t.take 128)) else 8) else 2) else 8
def cwR (d : Dk) (s : Int) (t : List UInt8) : Dk := if cwE d s t = 0 then wrR (wrR d (4 + 2 * s) (t.take 128)) (5 + 2 * s) (t.drop 128) else emptyD
/-- What Read tells. -/
def sdV (d : Dk) (s : Int) : List UInt8 := seenD d (4 + 2 * s).toNat ++ seenD d (5 + 2 * s).toNat
def crE (d : Dk) (s : Int) : Int := if mayB d then (if sideB s then (if mayT (sdV d s) then 0 else 8) else 2) else 8
def crV (d : Dk) (s : Int) : List UInt8 := if crE d s = 0 then sdV d s else []
theorem side_ways {s : Int} (h : sideB s = true) : s = 0 ∨ s = 1 := by simpa [sideB] using h
theorem side_no {s : Int} (h : sideB s = false) : s ≠ 0 ∧ s ≠ 1 := by simpa [sideB] using h

end Go.Proofs.YtmdlgnlfgfhkmaaGreat

/-
  Package count: Read. Conditions: those that each lemma states.
-/
namespace Go.Proofs.YtmdlgnlfgfhkmaaGreat
open Go.RowKit

/-- The bytes of the first k blocks of a side. -/
def sdK (d : Dk) (s : Int) (k : Nat) : List UInt8 := match k with
  | 0 => []
  | 1 => seenD d (4 + 2 * s).toNat
  | _ => sdV d s
theorem sdK_len {d : Dk} {s : Int} (hm : mayB d = true) (hs : s = 0 ∨ s = 1) {k : Nat} (hk : k ≤ 2) : (sdK d s k).length = 128 * k := by
  have h1 : (seenD d (4 + 2 * s).toNat).length = 128 := seenD_length hm (by rcases hs with rfl | rfl <;> decide)
  have h2 : (seenD d (5 + 2 * s).toNat).length = 128 := seenD_length hm (by rcases hs with rfl | rfl <;> decide)
  rcases k with _ | _ | _ | k
  · rfl
  · simpa [sdK] using h1
  · simp [sdK, sdV, h1, h2]
  · omega
theorem sdK_succ {d : Dk} {s : Int} (_ : s = 0 ∨ s = 1) {k : Nat} (hk : k < 2) : sdK d s (k + 1) = sdK d s k ++ seenD d (4 + 2 * s + k).toNat := by
  rcases k with _ | _ | k
  · simp [sdK]
  · have : (4 + 2 * s + ((0 + 1 : Nat) : Int)) = 5 + 2 * s := by omega
    rw [this]
    rfl
  · omega
/-- 'append(v, ys...)': v a row of bytes of the call's own. -/
theorem app_rows (v : Value) (n : Nat) (xs : List UInt8) (u : Value) (ys : List UInt8) (base : Nat) (w : World) (hv : w.ownsRow base 5 1 v n (u8s xs)) (hy : rBy (Old w) w [u] ys) (hs : n + ys.length ≤ 1000000000) (hb : base ≤ w.heap.size) :
    ∃ v' w', (Builtin.append_ #[26, 26] 26 #[v, u]).run Tryz.prog w = .ok v' w' ∧ w'.ownsRow base 5 1 v' (n + ys.length) (u8s (xs ++ ys)) ∧ Below base w w' := by
  obtain ⟨i0, hi, hz0, hz1, hz2⟩ := info_parts u8_info0
  obtain ⟨A, cap, rfl, _, _, hby⟩ := rBy_byt (B := w.heap.size) (fun p hp => hp) hy
  exact app_byt (P := Tryz.prog) (w := w) base 26 26 5 i0 Tryz.underlying26 hi hz0 hz1 hz2 v n xs hv w.heap.size A ys.length cap ys hby rfl hs hb

end Go.Proofs.YtmdlgnlfgfhkmaaGreat

/-
  The document's answers of layer 7: Up, Down, Sum. Conditions: those that each lemma states.
-/
namespace Go.Proofs.YtmdlgnlfgfhkmaaGreat
open Go.RowKit

set_option maxRecDepth 100000 in
set_option maxHeartbeats 2000000 in
theorem refWithT_any (v : Value) (t : List UInt8) (k : Nat) (x : UInt8) (q : Int) (hq : (x.toNat : Int) = q) (hk : k < t.length) (hbig : t.length ≤ 1000000) (w : World) (h : rBy (Old w) w [v] t) :
    Calls Tryz.prog 28 #[v, .int .i64 k, .int .u8 q] w fun e w' => ∃ u, e = .returned u ∧ rBy (New w.heap.size w') w' [u] (t.set k x) ∧ Below w.heap.size w w' := by
  obtain ⟨v', w2, hr2, ho2, hb2⟩ := app_rows (.slice none 0 0) 0 [] v t w.heap.size w (World.ownsRow_nil _ _ _ _) h (by omega) (Nat.le_refl _)
  rw [Nat.zero_add, List.nil_append] at ho2
  obtain ⟨A, c, rfl, l1, m1, _⟩ := id (rBy_open h)
  obtain ⟨g, c2, rfl, hg1, hg2, hg3, hg4⟩ := own_head ho2 (by omega)
  have hcell := own_cell ho2 (j := k) hk
  have hfr : w2.frozen? ⟨g, k, none⟩ = false := by
    have := own_free ho2 k
    rwa [show (⟨g, 0, none⟩ : Addr).add k = ⟨g, k, none⟩ by simp [add_off]] at this
  have hset := own_set ho2 k x
  rw [hq] at hset
  replace hset := Lib.hid hset
  generalize t[k]?.getD 0 = y at *
  have H2 := Lib.hid hr2
  have Hb2 := Lib.hid hb2
  replace hq := Lib.hid hq
  clear ho2 hr2 h hb2
  go_enter Tryz.func28, Tryz.ntmps28
  go_wp2_with (at_builtin; refine wpList_append_run rfl _ _ _ rfl rfl rfl H2.out ?_; clear H2)
  go_ret
  exact ⟨_, rfl, own_by hset.out, Hb2.out.setCell hg1 _⟩

end Go.Proofs.YtmdlgnlfgfhkmaaGreat

/-
  The document's answers of layer 9: less, asked, left. Conditions: those that each lemma states.
-/
namespace Go.Proofs.YtmdlgnlfgfhkmaaGreat
open Go.RowKit

set_option maxRecDepth 100000 in
set_option maxHeartbeats 4000000 in
theorem less9_any (v : Value) (t : List UInt8) (a : Nat) (hl : t.length = 256) (ha : a < 256) (w : World) (h : rBy (Old w) w [v] t) :
    Calls Tryz.prog 67 #[v, .int .i64 a] w fun e w' => ∃ A c, e = .returned (.tuple #[.slice A ((dnO t a).getD []).length c, .bool (dnO t a).isSome]) ∧ rBy (New w.heap.size w') w' [.slice A ((dnO t a).getD []).length c] ((dnO t a).getD []) ∧ Below w.heap.size w w' := by
  have H := Lib.hid h
  obtain ⟨A, c, rfl, l1, m1, hA⟩ := rBy_open h
  obtain ⟨ad, rfl, _, hc⟩ := hA a (by omega)
  have i3 : a < t.length := by omega
  by_cases hz : t[a]?.getD 0 = 0
  · have e0 : Hid (dnO t a = none) := Lib.hid (by rw [dnO, if_pos hz])
    rw [hz] at hc
    replace hc : w.cell? (ad.add a) = some (.int .u8 0) := hc
    clear hA hz h hl
    go_enter Tryz.func67, Tryz.ntmps67
    go_wp2_with fail
    go_ret2
    rw [e0.out]
    exact ⟨none, 0, rfl, rBy_nil_new _ _, Below.refl _ _⟩
  · have e1 := Lib.hid (dnO_yes hz)
    have t0 := byte_unlike (y := 0) (q := 0) rfl hz
    obtain ⟨hu, hu1, hu2⟩ := dn_byte hz
    have hW : Hid (∀ q : Int, (t[a]?.getD 0).toNat - 1 = q → ∀ W, rBy (Old W) W [.slice (some ad) t.length c] t → Calls Tryz.prog 28 #[.slice (some ad) t.length c, .int .i64 a, .int .u8 q] W fun e w' => ∃ A c, e = .returned (.slice A (t.set a (t[a]?.getD 0 - 1)).length c) ∧ rBy (New W.heap.size w') w' [.slice A (t.set a (t[a]?.getD 0 - 1)).length c] (t.set a (t[a]?.getD 0 - 1)) ∧ Below W.heap.size W w') := Lib.hid fun q hq W hb => by
      refine (refWithT_any _ t a (t[a]?.getD 0 - 1) q (by rw [← hq]; exact hu.symm) i3 (by omega) W hb).mono ?_
      rintro e w' ⟨u, rfl, h1, h2⟩
      obtain ⟨A, c, rfl, _⟩ := id (rBy_open h1)
      exact ⟨A, c, rfl, h1, h2⟩
    generalize hx : t[a]?.getD 0 = x at *
    obtain ⟨T, hT⟩ : ∃ T, t.set a (x - 1) = T := ⟨_, rfl⟩
    rw [hT] at hW e1
    replace hu := Lib.hid hu
    replace hx := Lib.hid hx
    replace hT := Lib.hid hT
    clear hA hz h hl
    go_enter Tryz.func67, Tryz.ntmps67
    go_wp2_with fail
    with_reducible refine (hW.out _ rfl _ H.out).mono ?_
    rintro e w2 ⟨A2, c2, rfl, h2, hb2⟩
    go_wp2_with fail
    go_ret2
    rw [e1.out]
    exact ⟨A2, c2, rfl, h2, hb2⟩
end Go.Proofs.YtmdlgnlfgfhkmaaGreat

/-
  The document's answers of layer 6: Great. Conditions: those that each lemma states.
-/
namespace Go.Proofs.YtmdlgnlfgfhkmaaGreat
open Go.RowKit

def cap5 (n : Nat) : Int := if (100000 : Int) < n then 100000 else n
theorem cap5_nonneg (n : Nat) : 0 ≤ cap5 n ∧ cap5 n ≤ 100000 := by unfold cap5; split <;> omega
def sumI : List It → Int
  | [] => 0
  | x :: r => cap5 x.2.2.length + sumI r
theorem sumI_snoc (xs : List It) (x : It) : sumI (xs ++ [x]) = sumI xs + cap5 x.2.2.length := by
  induction xs with
  | nil => simp [sumI]
  | cons y r ih => simp only [List.cons_append, sumI, ih]; omega
theorem sumI_le (xs : List It) : 0 ≤ sumI xs ∧ sumI xs ≤ 100000 * xs.length := by
  induction xs with
  | nil => simp [sumI]
  | cons y r ih => have := cap5_nonneg y.2.2.length; simp only [sumI, List.length_cons]; omega
theorem sumI_mem {xs : List It} {x : It} (h : x ∈ xs) : cap5 x.2.2.length ≤ sumI xs := by
  induction xs with
  | nil => cases h
  | cons y r ih =>
    have := cap5_nonneg y.2.2.length
    have := (sumI_le r).1
    simp only [sumI]
    rcases List.mem_cons.1 h with rfl | h
    · omega
    · have := ih h; omega
def greatI (l : List It) : Bool := decide (1000 < l.length) || decide (50000 < sumI (l.take 2000))
/-- Items that are not great are few and small. -/
structure Few (l : List It) : Prop where
  many : l.length ≤ 1000
  val : ∀ (k : Nat) (x : It), l[k]? = some x → x.2.2.length ≤ 100000
theorem few_of {l : List It} (h : greatI l = false) : Few l := by
  simp only [greatI, Bool.or_eq_false_iff, decide_eq_false_iff_not] at h
  obtain ⟨h1, h2⟩ := h
  rw [List.take_of_length_le (by omega)] at h2
  refine ⟨by omega, fun k x hk => ?_⟩
  have := sumI_mem (List.mem_of_getElem? hk)
  unfold cap5 at this
  split at this <;> omega

set_option maxRecDepth 100000 in
set_option maxHeartbeats 2000000 in
theorem greatI_any (v : Value) (l : List It) (w : World) (h : rIts (Old w) w [v] l) : Calls Tryz.prog 5 #[v] w fun e w' => e = .returned (.bool (greatI l)) ∧ Below w.heap.size w w' := by
  obtain ⟨A, c, rfl, l1, m1⟩ := its_open h
  have HA := Lib.hid h
  clear h
  have hg : greatI l = (decide (1000 < l.length) || decide (50000 < sumI (l.take 2000))) := rfl
  generalize greatI l = res at hg ⊢
  obtain ⟨n, hn⟩ : ∃ n, l.length = n := ⟨_, rfl⟩
  rw [hn] at l1 HA hg ⊢
  replace hn := Lib.hid hn
  replace hg := Lib.hid hg
  go_enter Tryz.func5, Tryz.ntmps5
  go_wp2_with fail
  go_loop [3, 4] (fun s i => ∃ k : Nat, k ≤ n ∧ k ≤ 2000 ∧ i = .int .i64 k ∧ s = .int .i64 (sumI (l.take k))) (fun _ i => n - (intOf i).toNat)
  case atStart => exact ⟨0, by omega, by omega, rfl, rfl⟩
  case round =>
    obtain ⟨k, hk, hk2, rfl, rfl⟩ := hrel
    have b1 := sumI_le (l.take k)
    have b2 : (l.take k).length ≤ k := List.length_take_le _ _
    by_cases hlt : k < n ∧ k < 2000
    · obtain ⟨hlt1, hlt2⟩ := hlt
      obtain ⟨x, hx⟩ : ∃ x, l[k]? = some x := ⟨_, List.getElem?_eq_getElem (by rw [hn.out]; exact hlt1)⟩
      obtain ⟨ad, E, ce, rfl, _, _, _, FX⟩ := its_old HA.out hx
      obtain ⟨⟨z0, z1, z2, z3, z4⟩, _⟩ := FX w (Below.refl _ _)
      have hsn := Lib.hid (show sumI (l.take (k + 1)) = sumI (l.take k) + cap5 x.2.2.length by rw [List.take_add_one, hx]; exact sumI_snoc _ _)
      have b3 := cap5_nonneg x.2.2.length
      replace hx := Lib.hid hx
      clear FX
      have hl2 : (k : Int) < 2000 := by omega
      have hl1 : (k : Int) < n := by omega
      generalize sumI (l.take k) = s at *
      generalize (l.take k).length = q at *
      go_wp2_with fail
      go_round
      case rel => exact ⟨k + 1, by omega, by omega, by go_num, by rw [hsn.out]; rfl⟩
      case measure => simp [intOf]; omega
    · have hs1 : Hid (l.take k = l.take 2000) := Lib.hid (by
        have := hn.out
        rcases (by omega : n ≤ k ∨ k = 2000) with h | h
        · rw [List.take_of_length_le (by omega), List.take_of_length_le (by omega)]
        · rw [h])
      rw [hs1.out] at b1 b2 ⊢
      obtain ⟨s, hs⟩ : ∃ s, sumI (l.take 2000) = s := ⟨_, rfl⟩
      replace hg := hg.out
      rw [hs] at hg b1 ⊢
      replace hg := Lib.hid hg
      have b1' : s ≤ 200000000 := by omega
      clear b2 hs
      by_cases h9 : k < n
      · have h10 : ¬ (k : Int) < 2000 := by omega
        by_cases h11 : 1000 < n
        · have h12 : (1000 : Int) < n := by omega
          have hfin := Lib.hid (show res = true by rw [hg.out]; simp [h11])
          go_wp2_with fail
          go_ret
          exact ⟨ret_bool hfin.out.symm, Below.refl _ _⟩
        · omega
      · by_cases h11 : 1000 < n
        · have h12 : (1000 : Int) < n := by omega
          have hfin := Lib.hid (show res = true by rw [hg.out]; simp [h11])
          go_wp2_with fail
          go_ret
          exact ⟨ret_bool hfin.out.symm, Below.refl _ _⟩
        · have h12 : ¬ (1000 : Int) < n := by omega
          have hfin := Lib.hid (show decide (50000 < s) = res by rw [hg.out]; simp [h11])
          go_wp2_with fail
          go_ret
          exact ⟨ret_bool hfin.out, Below.refl _ _⟩
end Go.Proofs.YtmdlgnlfgfhkmaaGreat

/-
  Bytes of the call's own that are turned where they lie; what lies elsewhere stays. Facts on items whose cells lie in a range that does not move. Conditions: those that each lemma states.
-/
namespace Go.Proofs.YtmdlgnlfgfhkmaaGreat
open Go.RowKit

structure Turnt (lo hi : Nat) (w wr : World) : Prop where
  sp : Spoilt lo w wr
  keep : ∀ k, hi ≤ k → wr.heap[k]? = w.heap[k]?
theorem Turnt.refl (lo hi : Nat) (w : World) : Turnt lo hi w w := ⟨Spoilt.refl _ _, fun _ _ => rfl⟩
theorem Turnt.step {lo hi : Nat} {w wr : World} (h : Turnt lo hi w wr) {p : Addr} (hp : lo ≤ p.block) (hp' : p.block < hi) {x : UInt8} (hx : wr.cell? p = some (.int .u8 (x.toNat : Int))) (y : UInt8) : Turnt lo hi w (wr.setCell p (.int .u8 (y.toNat : Int))) :=
  ⟨h.sp.step hp hx y, fun k hk => (Below.heap_setCell wr p _ k (by omega)).trans (h.keep k hk)⟩
theorem Turnt.drew {lo hi : Nat} {w wr : World} (h : Turnt lo hi w wr) : Turnt lo hi w wr.drew := ⟨h.sp.drew, h.keep⟩
theorem Turnt.block {lo hi : Nat} {w wr : World} (h : Turnt lo hi w wr) {k : Nat} (hk : k < lo ∨ hi ≤ k) : wr.heap[k]? = w.heap[k]? := by
  rcases hk with hk | hk
  · exact h.sp.low.block k hk
  · exact h.keep k hk
theorem Turnt.cell {lo hi : Nat} {w wr : World} (h : Turnt lo hi w wr) {p : Addr} (hk : p.block < lo ∨ hi ≤ p.block) : wr.cell? p = w.cell? p := World.cell?_of_block (h.block hk)
theorem Turnt.by_out {lo hi : Nat} {w wr : World} {ok : Addr → Prop} {v : Value} {xs : List UInt8} (h : Turnt lo hi w wr) (hok : ∀ p, ok p → p.block < lo ∨ hi ≤ p.block) (hx : rBy ok w [v] xs) : rBy ok wr [v] xs :=
  stab_by _ _ _ _ _ _ (fun p _ hp hc => ⟨hp, (h.cell (hok p hp)).trans hc⟩) hx
theorem Turnt.itm_out {lo hi : Nat} {w wr : World} {ok : Addr → Prop} {v : Value} {s : It} (h : Turnt lo hi w wr) (hok : ∀ p, ok p → p.block < lo ∨ hi ≤ p.block) (hx : Itm ok w v s) : Itm ok wr v s :=
  hx.map fun p _ hp hc => ⟨hp, (h.cell (hok p hp)).trans hc⟩
theorem Turnt.box5 {lo hi g : Nat} {w wr : World} {a b c d e : Value} (h : Turnt lo hi w wr) (hg : g < lo ∨ hi ≤ g) (hb : Box5 g a b c d e w) : Box5 g a b c d e wr :=
  ⟨(h.cell (p := ⟨g, 0, none⟩) hg).trans hb.1, (h.cell (p := ⟨g, 1, none⟩) hg).trans hb.2.1, (h.cell (p := ⟨g, 2, none⟩) hg).trans hb.2.2.1, (h.cell (p := ⟨g, 3, none⟩) hg).trans hb.2.2.2.1, (h.cell (p := ⟨g, 4, none⟩) hg).trans hb.2.2.2.2.1, Nat.lt_of_lt_of_le hb.2.2.2.2.2 h.sp.low.size⟩

/-- Facts whose cells lie in a range that does not move. -/
def OnI (ok : Addr → Prop) (v : Value) (s : It) : World → Prop := fun w => Itm ok w v s
theorem lasts_onI (ok : Addr → Prop) (v : Value) (s : It) : Lasts (OnI ok v s) := fun w _ h hb => Itm.map (fun p _ hp hc => ⟨hp, (hb.cell (World.block_lt_of_cell? w p hc)).trans hc⟩) h
def OnB (ok : Addr → Prop) (v : Value) (xs : List UInt8) : World → Prop := fun w => rBy ok w [v] xs
theorem lasts_onB (ok : Addr → Prop) (v : Value) (xs : List UInt8) : Lasts (OnB ok v xs) := fun w _ h hb => stab_by _ _ _ _ _ _ (fun p _ hp hc => ⟨hp, (hb.cell (World.block_lt_of_cell? w p hc)).trans hc⟩) h
theorem OnI.old {ok : Addr → Prop} {v : Value} {s : It} {w : World} (h : OnI ok v s w) : Itm (Old w) w v s := Itm.map (fun p _ _ hc => ⟨World.block_lt_of_cell? w p hc, hc⟩) h
theorem OnB.old {ok : Addr → Prop} {v : Value} {xs : List UInt8} {w : World} (h : OnB ok v xs w) : rBy (Old w) w [v] xs := stab_by _ _ _ _ _ _ (fun p _ _ hc => ⟨World.block_lt_of_cell? w p hc, hc⟩) h
/-- Where the bytes of an item of the call's own lie. -/
def In (lo hi : Nat) : Addr → Prop := fun p => lo ≤ p.block ∧ p.block < hi
theorem on_new {lo : Nat} {w : World} {v : Value} {s : It} (h : Itm (New lo w) w v s) : OnI (In lo w.heap.size) v s w := h.map fun _ _ hp hc => ⟨⟨hp.1, hp.2.1⟩, hc⟩
theorem on_old {w : World} {v : Value} {s : It} (h : Itm (Old w) w v s) : OnI (In 0 w.heap.size) v s w := h.map fun _ _ hp hc => ⟨⟨Nat.zero_le _, hp⟩, hc⟩
theorem onB_old {w : World} {v : Value} {xs : List UInt8} (h : rBy (Old w) w [v] xs) : OnB (In 0 w.heap.size) v xs w := stab_by _ _ _ _ _ _ (fun _ _ hp hc => ⟨⟨Nat.zero_le _, hp⟩, hc⟩) h
/-- An item of the call's own whose bytes lie in a range that does not move. -/
def Fz (lo hi : Nat) (w : World) : Addr → Prop := fun p => lo ≤ p.block ∧ p.block < hi ∧ w.frozen? p = false
def NewIn (lo hi : Nat) (v : Value) (s : It) : World → Prop := fun w => Itm (Fz lo hi w) w v s ∧ hi ≤ w.heap.size
theorem lasts_newIn (lo hi : Nat) (v : Value) (s : It) : Lasts (NewIn lo hi v s) := fun _ _ h hb => ⟨h.1.map fun _ _ hp hc => ⟨⟨hp.1, hp.2.1, (hb.frozen (Nat.lt_of_lt_of_le hp.2.1 h.2)).trans hp.2.2⟩, (hb.cell (Nat.lt_of_lt_of_le hp.2.1 h.2)).trans hc⟩, Nat.le_trans h.2 hb.size⟩
theorem newIn_of {lo : Nat} {w : World} {v : Value} {s : It} (h : Itm (New lo w) w v s) : NewIn lo w.heap.size v s w := ⟨h, Nat.le_refl _⟩
theorem Turnt.newIn_out {lo hi lo' hi' : Nat} {w wr : World} {v : Value} {s : It} (h : Turnt lo hi w wr) (hk : hi' ≤ lo ∨ hi ≤ lo') (hx : NewIn lo' hi' v s w) : NewIn lo' hi' v s wr :=
  ⟨hx.1.map fun p _ hp hc => by
    have hb := h.block (k := p.block) (by have h1 := hp.1; have h2 := hp.2.1; omega)
    exact ⟨⟨hp.1, hp.2.1, (World.frozen?_of_block hb).trans hp.2.2⟩, (World.cell?_of_block hb).trans hc⟩, Nat.le_trans hx.2 h.sp.low.size⟩
/-- A byte of an item of the call's own, somewhat later in a loop that turns them. -/
theorem turn_at {lo hi : Nat} {w wr : World} {s : It} {A : Option Addr} {n c k : Nat} (h1 : NewIn lo hi (itV s (.slice A n c)) s w) (h : Turnt lo hi w wr) (hk : k < s.2.2.length) :
    ∃ (ad : Addr) (y : UInt8), A = some ad ∧ wr.cell? (ad.add k) = some (.int .u8 (y.toNat : Int)) ∧ wr.frozen? (ad.add k) = false ∧ Turnt lo hi w (wr.setCell (ad.add k) (.int .u8 ((y + 1).toNat : Int))) := by
  obtain ⟨⟨d, e, _, r1⟩, hs⟩ := h1
  have ed : d = .slice A n c := by injection e with e; simpa using e.symm
  subst ed
  obtain ⟨_, _, e3, _, _, o1⟩ := rBy_open r1
  cases e3
  obtain ⟨ad, rfl, hn, hc⟩ := o1 k hk
  have hlt : (ad.add k).block < w.heap.size := Nat.lt_of_lt_of_le hn.2.1 hs
  obtain ⟨y, hy⟩ := h.sp.byte (ad.add k) _ hlt hc
  exact ⟨ad, y, rfl, hy, (h.sp.fro _ hlt).trans hn.2.2, h.step hn.1 hn.2.1 hy (y + 1)⟩
end Go.Proofs.YtmdlgnlfgfhkmaaGreat

/-
  A bag's facts on nodes; what places tell, plain. Conditions: those that each lemma states.
-/
namespace Go.Proofs.YtmdlgnlfgfhkmaaGreat
open Go.RowKit

theorem bag_node {w w1 : World} {Fs : List (World → Prop)} (h : Bag w Fs) (hb : Below w.heap.size w w1) (a b : Value) : ∃ w', w1.alloc (.cells #[a, b] 31) = w' ∧ Bag w' (Box2 w1.heap.size a b :: Fs) ∧ Below w.heap.size w w' ∧ Below w1.heap.size w1 w' ∧ w1.heap.size < w'.heap.size := by
  obtain ⟨w2, e2, b2, k4, k5⟩ := box_pair' w1 a b 31
  obtain ⟨k1, k2, _, k3⟩ := two_cells b2
  exact ⟨w2, e2, ((h.below hb).below k5).add ⟨k1, k2, k3⟩ (lasts_box _ _ _), hb.trans (k5.mono hb.size), k5, by omega⟩
def OldN (v : Value) (n : Nd) : World → Prop := fun w => Nod (Old w) w v n
theorem lasts_oldN (v : Value) (n : Nd) : Lasts (OldN v n) := fun _ _ h hb => h.below hb
def OldIs (v : Value) (l : List It) : World → Prop := fun w => rIts (Old w) w [v] l
theorem lasts_oldIs (v : Value) (l : List It) : Lasts (OldIs v l) := fun _ _ h hb => stab_its.old h hb

/-! ### Places -/
theorem cntK_all {l : List It} {k : Ky} : ∀ {i : Nat}, i ≤ l.length → (∀ j x, j < i → l[j]? = some x → lessK x.1 k = true) → cntK (l.take i) k = i
  | 0, _, _ => rfl
  | i + 1, hi, h => by
    have hx : l[i]? = some l[i] := List.getElem?_eq_getElem hi
    rw [cntK_yes hx (h i _ (by omega) hx), cntK_all (by omega) (fun j x hj => h j x (by omega))]
theorem cntK_up (l : List It) (k : Ky) (i : Nat) : cntK (l.take i) k ≤ cntK l k := by
  unfold cntK
  exact ((List.take_sublist i l).filter _).length_le
theorem cntK_stop {l : List It} {k : Ky} {i : Nat} (h : ∀ j x, i ≤ j → l[j]? = some x → lessK x.1 k = false) : cntK l k = cntK (l.take i) k := by
  have e : cntK l k = cntK (l.take i) k + cntK (l.drop i) k := by
    unfold cntK
    rw [← List.length_append, ← List.filter_append, List.take_append_drop]
  have z : cntK (l.drop i) k = 0 := by
    unfold cntK
    rw [List.length_eq_zero_iff, List.filter_eq_nil_iff]
    intro x hx
    obtain ⟨j, hj⟩ := List.mem_iff_getElem?.1 hx
    rw [List.getElem?_drop] at hj
    rw [h (i + j) x (by omega) hj]
    simp
  omega
theorem place_parts {n : Nd} (h : mayN n = true) {k : Ky} {i : Nat} {x : It} (hx : n.2[i]? = some x) : lessK x.1 k = decide (i < placeN n k) := by
  have hi := (List.getElem?_eq_some_iff.1 hx).1
  cases e : lessK x.1 k with
  | true =>
    have h1 : cntK (n.2.take (i + 1)) k = i + 1 := cntK_all (by omega) (fun j y hj hy => by
      rcases Nat.lt_or_ge j i with h2 | h2
      · exact less_trans (mayN_rises h h2 hy hx) e
      · obtain rfl : j = i := by omega
        rw [hx] at hy
        cases hy
        exact e)
    have h2 := cntK_up n.2 k (i + 1)
    have h3 : placeN n k = cntK n.2 k := rfl
    have : i < placeN n k := by omega
    simp [this]
  | false =>
    have h1 : cntK n.2 k = cntK (n.2.take i) k := cntK_stop (fun j y hj hy => by
      rcases Nat.lt_or_ge i j with h2 | h2
      · cases e2 : lessK y.1 k with
        | false => rfl
        | true =>
          have := less_trans (mayN_rises h h2 hx hy) e2
          rw [e] at this
          cases this
      · obtain rfl : i = j := by omega
        rw [hx] at hy
        cases hy
        exact e)
    have h2 := cntK_take n.2 k i
    have h3 : placeN n k = cntK n.2 k := rfl
    have : ¬ i < placeN n k := by omega
    simp [this]
theorem placeN_le (n : Nd) (k : Ky) : placeN n k ≤ n.2.length := cntK_le _ _
theorem place_own {n : Nd} (h : mayN n = true) {i : Nat} {x : It} (hx : n.2[i]? = some x) : placeN n x.1 = i ∧ thereN n x.1 = true := by
  have hi := (List.getElem?_eq_some_iff.1 hx).1
  have h1 : ¬ i < placeN n x.1 := fun h2 => by
    have := place_parts h (k := x.1) hx
    rw [less_self] at this
    simp [h2] at this
  have h2 : placeN n x.1 = i := by
    rcases Nat.eq_zero_or_pos i with h0 | h0
    · omega
    · obtain ⟨j, rfl⟩ : ∃ j, i = j + 1 := ⟨i - 1, by omega⟩
      have hy : n.2[j]? = some n.2[j] := List.getElem?_eq_getElem (by omega)
      have h3 := place_parts h (k := x.1) hy
      rw [mayN_rise h hy hx] at h3
      have : j < placeN n x.1 := by simpa using h3.symm
      omega
  exact ⟨h2, by rw [thereN_at (by rw [h2]; exact hx)]; simp⟩
def anyK (l : List It) (k : Ky) : Bool := l.any fun x => decide (x.1 = k)
theorem anyK_nil (k : Ky) : anyK [] k = false := rfl
theorem anyK_snoc {l : List It} {k : Ky} {i : Nat} {x : It} (hx : l[i]? = some x) : anyK (l.take (i + 1)) k = (anyK (l.take i) k || decide (x.1 = k)) := by
  unfold anyK
  rw [List.take_add_one, hx, Option.toList_some, List.any_append]
  simp
theorem thereN_any {n : Nd} (h : mayN n = true) (k : Ky) : thereN n k = anyK n.2 k := by
  cases e : anyK n.2 k with
  | true =>
    unfold anyK at e
    rw [List.any_eq_true] at e
    obtain ⟨x, hx, hk⟩ := e
    obtain ⟨i, hi⟩ := List.mem_iff_getElem?.1 hx
    have hk' : x.1 = k := by simpa using hk
    rw [← hk']
    exact (place_own h hi).2
  | false =>
    cases e2 : thereN n k with
    | false => rfl
    | true =>
      unfold thereN at e2
      cases e3 : n.2[placeN n k]? with
      | none => rw [e3] at e2; cases e2
      | some x =>
        rw [e3] at e2
        unfold anyK at e
        rw [List.any_eq_false] at e
        exact absurd e2 (by simpa using e x (List.mem_of_getElem? e3))
theorem place_mono {n : Nd} {a b : Ky} (h : lessK a b = true) : placeN n a ≤ placeN n b := by
  show cntK n.2 a ≤ cntK n.2 b
  unfold cntK
  induction n.2 with
  | nil => simp
  | cons x r ih =>
    simp only [List.filter_cons]
    cases e : lessK x.1 a with
    | true => rw [less_trans e h]; simpa using ih
    | false =>
      cases e2 : lessK x.1 b with
      | true => simp; omega
      | false => simpa using ih
end Go.Proofs.YtmdlgnlfgfhkmaaGreat

/-
  The document's answers of layer 9: what is left, level by level. Conditions: those that each lemma states.
-/
namespace Go.Proofs.YtmdlgnlfgfhkmaaGreat
open Go.RowKit

/-- What a call of left tells, at a level. -/
def LeftIs (s : Rm) (lv : Int) (F : List UInt8 → Nat → Option (List UInt8)) : Prop := ∀ (v tv : Value) (t : List UInt8) (a : Nat) (w : World), Sto (Old w) w v s → rBy (Old w) w [tv] t → LeT t s.2.1 → 8 ≤ a → a < 256 →
    Calls Tryz.prog 48 #[v, tv, .int .i64 a, .int .i64 lv] w fun e w' => ∃ A c, e = .returned (.tuple #[.slice A ((F t a).getD []).length c, .bool (F t a).isSome]) ∧ rBy (New w.heap.size w') w' [.slice A ((F t a).getD []).length c] ((F t a).getD []) ∧ Below w.heap.size w w'
theorem each_none {f : List UInt8 → Nat → Option (List UInt8)} {t : List UInt8} {l : List It} {k : Nat} (h : eachO f t (l.take k) = none) : eachO f t l = none := by
  rw [← List.take_append_drop k l, each_app, h]
  rfl
theorem each_step {f : List UInt8 → Nat → Option (List UInt8)} {t u : List UInt8} {l : List It} {k : Nat} {x : It} (h : eachO f t (l.take k) = some u) (hx : l[k]? = some x) : eachO f t (l.take (k + 1)) = if x.2.1 = 0 then some u else f u x.2.1.toNat := by
  have hk := (List.getElem?_eq_some_iff.1 hx).1
  have hg : l[k] = x := (List.getElem?_eq_some_iff.1 hx).2
  rw [← List.take_append_getElem hk, each_app, h, hg]
  show eachO f u [x] = _
  simp only [eachO]
  split
  · rfl
  · cases f u x.2.1.toNat <;> rfl

set_option maxRecDepth 100000 in
set_option maxHeartbeats 8000000 in
theorem left_step (s : Rm) (hm : mayR s = true) (lv : Int) (F : List UInt8 → Nat → Option (List UInt8))
    (hF : ∀ t a, F t a = (dnO t a).bind fun t' => if 1 < (t[a]?.getD 0).toNat then some t' else if reN (seenD s.1 a) = 0 ∧ (lv < 0 ∨ (reV (seenD s.1 a)).1 = lv) then eachO (lvF s.1 (reV (seenD s.1 a)).1.toNat) t' (reV (seenD s.1 a)).2 else none)
    (hrec : ∀ j : Nat, (0 ≤ lv → (j : Int) < lv) → LeftIs s j (lvF s.1 (j + 1))) : LeftIs s lv F := by
  intro v tv t a w h ht hle h8 h256
  have hls := Lib.hid (mayT_len (mayR_of hm).2.1)
  have hlt : t.length = 256 := by rw [hle.len, hls.out]
  obtain ⟨A, ca, B, cb, N, cn, L, cl, rfl, _⟩ := id h.open
  obtain ⟨E, ce, rfl, _⟩ := id (rBy_open ht)
  obtain ⟨w1, hw1, f1, hs1, hB1⟩ := box_4 w (.slice A s.1.1.length ca) (.slice B s.1.2.length cb) (.slice N s.2.1.length cn) (.slice L s.2.2.length cl) 28
  have hz : Hid (∀ W, Below w1.heap.size w1 W → ∃ ad, E = some ad ∧ W.cell? (ad.add a) = some (.int .u8 ((t[a]?.getD 0).toNat : Int))) := Lib.hid fun W hW => by
    obtain ⟨_, _, e, _, _, hA⟩ := rBy_open ht
    cases e
    obtain ⟨ad, rfl, h2, h3⟩ := hA a (by omega)
    have hb := hB1.trans (hW.mono hB1.size)
    exact ⟨ad, rfl, (hb.cell h2).trans h3⟩
  have G0 := ((Bag.nil w).add (F := OldB _ _) ht (lasts_oldB _ _)).add (F := OldR _ _) h (lasts_oldR _ _)
  obtain ⟨k0, k1, k2, k3, _, kg⟩ := four_cells f1
  have HG := Lib.hid ((G0.below hB1).add (F := Box4 _ _ _ _ _) ⟨k0, k1, k2, k3, kg⟩ (lasts_box4 _ _ _ _ _))
  have BB := Lib.hid hB1
  have hFa := Lib.hid (hF t a)
  have i1 : (0 : Int) ≤ (a : Int) := by omega
  have i2 : a < t.length := by omega
  replace hs1 := Lib.hid hs1
  replace f1 := Lib.hid f1
  clear h ht G0 hB1 k0 k1 k2 k3 kg
  have kt : Hid (rBy (Old w1) w1 [.slice E t.length ce] t) := Lib.hid (HG.out.at 2 rfl)
  obtain ⟨x, hxx⟩ : ∃ x, t[a]?.getD 0 = x := ⟨_, rfl⟩
  have hd0 : dnO t a = if x = 0 then none else some (t.set a (x - 1)) := by rw [← hxx]; rfl
  have hxle : x.toNat ≤ (s.2.1[a]?.getD 0).toNat := by rw [← hxx]; exact hle.le a
  rw [hxx] at hz hFa
  replace hxx := Lib.hid hxx
  by_cases hz0 : x = 0
  · have e0 : dnO t a = none := by rw [hd0, if_pos hz0]
    have eF : Hid (F t a = none) := Lib.hid (by rw [hFa.out, e0]; rfl)
    have hL := Lib.hid (less9_any _ t a hlt h256 _ kt.out)
    rw [e0] at hL
    replace hlt := Lib.hid hlt
    clear hF hFa e0 hz0 hrec
    go_enter Tryz.func48, Tryz.ntmps48
    go_upto_region 1 with fail
    clear hw1
    go_wp2_with fail
    with_reducible refine hL.out.mono ?_
    rintro e w2 ⟨A2, c2, rfl, h2, hb2⟩
    replace h2 := Lib.hid (stab_by.mono h2 BB.out.size)
    replace BB := Lib.hid (BB.out.trans (hb2.mono BB.out.size))
    clear hL hb2
    go_wp2_with fail
    go_ret2
    rw [eF.out]
    exact ⟨A2, c2, rfl, h2.out, BB.out⟩
  have e1 : dnO t a = some (t.set a (x - 1)) := by rw [hd0, if_neg hz0]
  obtain ⟨T, hT⟩ : ∃ T, t.set a (x - 1) = T := ⟨_, rfl⟩
  rw [hT] at e1
  have hL : Hid (Calls Tryz.prog 67 #[.slice E t.length ce, .int .i64 a] w1 fun e w' => ∃ A c, e = .returned (.tuple #[.slice A T.length c, .bool true]) ∧ rBy (New w1.heap.size w') w' [.slice A T.length c] T ∧ Below w1.heap.size w1 w') := Lib.hid (by
    have := less9_any _ t a hlt h256 _ kt.out
    rw [e1] at this
    exact this)
  replace hlt := Lib.hid hlt
  have hTle : LeT T s.2.1 := (dnO_some e1).2.2.1.trans hle
  replace hT := Lib.hid hT
  by_cases hm1 : 1 < x.toNat
  · have eF : Hid (F t a = some T) := Lib.hid (by
      rw [hFa.out, e1]
      show (if 1 < x.toNat then some T else _) = some T
      rw [if_pos hm1])
    clear hF hFa e1 hrec
    go_enter Tryz.func48, Tryz.ntmps48
    go_upto_region 1 with fail
    clear hw1
    go_wp2_with fail
    with_reducible refine hL.out.mono ?_
    rintro e w2 ⟨A2, c2, rfl, h2, hb2⟩
    obtain ⟨ad, rfl, hc⟩ := hz.out w2 hb2
    replace h2 := Lib.hid (stab_by.mono h2 BB.out.size)
    replace BB := Lib.hid (BB.out.trans (hb2.mono BB.out.size))
    have j1 : (1 : Int) < (x.toNat : Int) := by omega
    clear hL hb2
    go_wp2_with fail
    go_ret2
    rw [eF.out]
    exact ⟨A2, c2, rfl, h2.out, BB.out⟩
  -- a node that goes
  have has : Hid (asE s a = 0) := Lib.hid (as_yes hm h8 h256 (fun e => hz0 (nat_zero.1 (by
    have := hxle
    rw [e] at this
    exact Nat.le_zero.1 this))))
  have hc1 : Hid (x = 1) := Lib.hid (UInt8.toNat_inj.1 (by
    have : x.toNat ≠ 0 := fun e => hz0 (nat_zero.1 e)
    show _ = 1
    omega))
  replace hFa : Hid (F t a = if reN (seenD s.1 a) = 0 ∧ (lv < 0 ∨ (reV (seenD s.1 a)).1 = lv) then eachO (lvF s.1 (reV (seenD s.1 a)).1.toNat) T (reV (seenD s.1 a)).2 else none) := Lib.hid (by
    rw [hFa.out, e1]
    show (if 1 < x.toNat then some T else _) = _
    rw [if_neg hm1])
  clear hF e1 hm1 hz0
  have j1 : ¬ (1 : Int) < (x.toNat : Int) := by rw [hc1.out]; decide
  generalize hb : seenD s.1 a = b at *
  obtain ⟨V, hV⟩ : ∃ V, reV b = V := ⟨_, rfl⟩
  obtain ⟨lw, hlw⟩ : ∃ q, V.1 = q := ⟨_, rfl⟩
  obtain ⟨l, hl⟩ : ∃ q, V.2 = q := ⟨_, rfl⟩
  obtain ⟨m, hlm⟩ : ∃ q, l.length = q := ⟨_, rfl⟩
  have hRd0 : ∀ v W, Sto (Old W) W v s → Calls Tryz.prog 68 #[v, .int .i64 a] W fun e w' => ∃ Z zc, e = .returned (.tuple #[.agg #[.int .i64 lw, .slice Z m zc], .bool (reN b == 0)]) ∧ rIts (Old w') w' [.slice Z m zc] l ∧ Below W.heap.size W w' := fun v W hW => by
    refine (refReadR_ok v s a has.out W hW).mono ?_
    rintro e w' ⟨u, rfl, hu, hb'⟩
    rw [hb, hV] at hu
    obtain ⟨Z, zc, rfl, _, _, _, hA⟩ := hu.drop.open
    rw [hlw, hl, hlm]
    rw [hl, hlm] at hA
    rw [hb]
    exact ⟨Z, zc, rfl, hA, hb'⟩
  rw [hV, hlw, hl] at hFa
  by_cases hr0 : reN b = 0
  case neg =>
    have eF : Hid (F t a = none) := Lib.hid (by rw [hFa.out, if_neg (fun h => hr0 h.1)])
    have hRd : Hid (∀ v W, Sto (Old W) W v s → Calls Tryz.prog 68 #[v, .int .i64 a] W fun e w' => ∃ Z zc, e = .returned (.tuple #[.agg #[.int .i64 lw, .slice Z m zc], .bool false]) ∧ rIts (Old w') w' [.slice Z m zc] l ∧ Below W.heap.size W w') := Lib.hid (by
      rw [show (reN b == 0) = false by simpa using hr0] at hRd0
      exact hRd0)
    replace hb := Lib.hid hb
    replace hV := Lib.hid hV
    replace hlw := Lib.hid hlw
    replace hl := Lib.hid hl
    replace hlm := Lib.hid hlm
    clear hrec hRd0 hr0 hFa
    go_enter Tryz.func48, Tryz.ntmps48
    go_upto_region 1 with fail
    clear hw1
    go_wp2_with fail
    with_reducible refine hL.out.mono ?_
    rintro e w2 ⟨A2, c2, rfl, h2, hb2⟩
    obtain ⟨ad, rfl, hc⟩ := hz.out w2 hb2
    replace HG := Lib.hid ((HG.out.below hb2).add (F := NewB w.heap.size _ _) (stab_by.mono h2 BB.out.size) (lasts_newB _ _ _))
    replace BB := Lib.hid (BB.out.trans (hb2.mono BB.out.size))
    obtain ⟨k0, k1, k2, k3, _⟩ := HG.out.at 1 rfl
    have ks : Hid (Sto (Old w2) w2 (.agg #[.slice A s.1.1.length ca, .slice B s.1.2.length cb, .slice N s.2.1.length cn, .slice L s.2.2.length cl]) s) := Lib.hid (HG.out.at 2 rfl)
    clear hL hb2 h2
    go_wp2_with fail
    with_reducible refine (hRd.out _ _ ks.out).mono ?_
    rintro e w3 ⟨Z, zc, rfl, h3, hb3⟩
    obtain ⟨w4, hw4, G4, _, hb4, _⟩ := bag_node (HG.out.below hb3) (Below.refl _ _) (.int .i64 lw) (.slice Z m zc)
    replace HG := Lib.hid (G4.add (F := OldIs _ _) (stab_its.old h3 hb4) (lasts_oldIs _ _))
    replace BB := Lib.hid (BB.out.trans ((hb3.trans (hb4.mono hb3.size)).mono BB.out.size))
    clear k0 k1 k2 k3 ks h3 hb3 hb4 G4 hRd hc hz
    go_upto_region 5 with fail
    clear hw4
    obtain ⟨y0, y1, _⟩ := HG.out.at 1 rfl
    go_wp2_with fail
    go_ret2
    rw [eF.out]
    exact ⟨none, 0, rfl, rBy_nil_new _ _, BB.out⟩
  have hmV : mayN V = true := by rw [← hV]; exact (blkN_read hr0).1
  obtain ⟨⟨s1, s2, s3, _⟩, _⟩ := mayN_of hmV
  rw [hlw] at s1 s2
  rw [hl, hlm] at s3
  have hrf := Lib.hid (refs_may hmV)
  rw [hl] at hrf
  have hRd : Hid (∀ v W, Sto (Old W) W v s → Calls Tryz.prog 68 #[v, .int .i64 a] W fun e w' => ∃ Z zc, e = .returned (.tuple #[.agg #[.int .i64 lw, .slice Z m zc], .bool true]) ∧ rIts (Old w') w' [.slice Z m zc] l ∧ Below W.heap.size W w') := Lib.hid (by
    rw [show (reN b == 0) = true by simpa using hr0] at hRd0
    exact hRd0)
  by_cases hlv : lv < 0 ∨ lw = lv
  case neg =>
    have eF : Hid (F t a = none) := Lib.hid (by rw [hFa.out, if_neg (fun h => hlv h.2)])
    have q1 : (0 : Int) ≤ lv := by omega
    have q2 : (lw != lv) = true := by simp; omega
    replace hb := Lib.hid hb
    replace hV := Lib.hid hV
    replace hlw := Lib.hid hlw
    replace hl := Lib.hid hl
    replace hlm := Lib.hid hlm
    clear hrec hRd0 hr0 hFa hlv
    go_enter Tryz.func48, Tryz.ntmps48
    go_upto_region 1 with fail
    clear hw1
    go_wp2_with fail
    with_reducible refine hL.out.mono ?_
    rintro e w2 ⟨A2, c2, rfl, h2, hb2⟩
    obtain ⟨ad, rfl, hc⟩ := hz.out w2 hb2
    replace HG := Lib.hid ((HG.out.below hb2).add (F := NewB w.heap.size _ _) (stab_by.mono h2 BB.out.size) (lasts_newB _ _ _))
    replace BB := Lib.hid (BB.out.trans (hb2.mono BB.out.size))
    obtain ⟨k0, k1, k2, k3, _⟩ := HG.out.at 1 rfl
    have ks : Hid (Sto (Old w2) w2 (.agg #[.slice A s.1.1.length ca, .slice B s.1.2.length cb, .slice N s.2.1.length cn, .slice L s.2.2.length cl]) s) := Lib.hid (HG.out.at 2 rfl)
    clear hL hb2 h2
    go_wp2_with fail
    with_reducible refine (hRd.out _ _ ks.out).mono ?_
    rintro e w3 ⟨Z, zc, rfl, h3, hb3⟩
    obtain ⟨w4, hw4, G4, _, hb4, _⟩ := bag_node (HG.out.below hb3) (Below.refl _ _) (.int .i64 lw) (.slice Z m zc)
    replace HG := Lib.hid (G4.add (F := OldIs _ _) (stab_its.old h3 hb4) (lasts_oldIs _ _))
    replace BB := Lib.hid (BB.out.trans ((hb3.trans (hb4.mono hb3.size)).mono BB.out.size))
    clear k0 k1 k2 k3 ks h3 hb3 hb4 G4 hRd hc hz
    go_upto_region 5 with fail
    clear hw4
    obtain ⟨y0, y1, _⟩ := HG.out.at 1 rfl
    go_wp2_with fail
    go_ret2
    rw [eF.out]
    exact ⟨none, 0, rfl, rBy_nil_new _ _, BB.out⟩
  obtain ⟨f, hf⟩ : ∃ f, lvF s.1 lw.toNat = f := ⟨_, rfl⟩
  have hFl : Hid (F t a = eachO f T l) := Lib.hid (by rw [hFa.out, if_pos ⟨hr0, hlv⟩, hf])
  have hfle : ∀ t a u, f t a = some u → LeT u t := by rw [← hf]; exact lvF_le _ _
  have hf0 : Hid (lw = 0 → f = dnO) := Lib.hid fun e => by rw [← hf, e]; rfl
  have hf1 : Hid (∀ j : Nat, lw = (j : Int) + 1 → f = lvF s.1 (j + 1)) := Lib.hid fun j e => by rw [← hf, e]; rfl
  have hlw0 : Hid (0 ≤ lw) := Lib.hid s1
  have hlw5 : Hid (lw < 6) := Lib.hid s2
  have hlow : Hid (0 ≤ lv → lw = lv) := Lib.hid fun h0 => by omega
  replace hb := Lib.hid hb
  replace hV := Lib.hid hV
  replace hlw := Lib.hid hlw
  replace hl := Lib.hid hl
  replace hlm := Lib.hid hlm
  replace hf := Lib.hid hf
  clear hRd0 hr0 hFa s1 s2
  by_cases hn : lv < 0
  · have q1 : ¬ (0 : Int) ≤ lv := by omega
    clear hlv
    go_enter Tryz.func48, Tryz.ntmps48
    go_upto_region 1 with fail
    clear hw1
    go_wp2_with fail
    with_reducible refine hL.out.mono ?_
    rintro e w2 ⟨A2, c2, rfl, h2, hb2⟩
    obtain ⟨ad, rfl, hc⟩ := hz.out w2 hb2
    replace HG := Lib.hid ((HG.out.below hb2).add (F := NewB w.heap.size _ _) (stab_by.mono h2 BB.out.size) (lasts_newB _ _ _))
    replace BB := Lib.hid (BB.out.trans (hb2.mono BB.out.size))
    obtain ⟨k0, k1, k2, k3, _⟩ := HG.out.at 1 rfl
    have ks : Hid (Sto (Old w2) w2 (.agg #[.slice A s.1.1.length ca, .slice B s.1.2.length cb, .slice N s.2.1.length cn, .slice L s.2.2.length cl]) s) := Lib.hid (HG.out.at 2 rfl)
    clear hL hb2 h2
    go_wp2_with fail
    with_reducible refine (hRd.out _ _ ks.out).mono ?_
    rintro e w3 ⟨Z, zc, rfl, h3, hb3⟩
    obtain ⟨w4, hw4, G4, _, hb4, _⟩ := bag_node (HG.out.below hb3) (Below.refl _ _) (.int .i64 lw) (.slice Z m zc)
    replace HG := Lib.hid (G4.add (F := OldIs _ _) (stab_its.old h3 hb4) (lasts_oldIs _ _))
    replace BB := Lib.hid (BB.out.trans ((hb3.trans (hb4.mono hb3.size)).mono BB.out.size))
    clear k0 k1 k2 k3 ks h3 hb3 hb4 G4 hRd hc hz
    go_upto_region 5 with fail
    clear hw4
    obtain ⟨y0, y1, _⟩ := HG.out.at 1 rfl
    go_wp2_with fail
    clear y0 y1
    go_loopw [10, 11, 14] (fun vo vb vi wr => ∃ k : Nat, k ≤ m ∧ vi = .int .i64 k ∧ (∃ X xc, vo = .slice X ((eachO f T (l.take k)).getD []).length xc ∧ rBy (New w.heap.size wr) wr [.slice X ((eachO f T (l.take k)).getD []).length xc] ((eachO f T (l.take k)).getD [])) ∧ vb = .bool (eachO f T (l.take k)).isSome ∧ Below w4.heap.size w4 wr) (fun _ _ vi _ => m - (intOf vi).toNat)
    case atStart => exact ⟨0, by omega, rfl, ⟨A2, c2, rfl, HG.out.at 2 rfl⟩, rfl, Below.refl _ _⟩
    case round =>
      obtain ⟨k, hk, rfl, ⟨X, xc, rfl, hU⟩, rfl, hbr⟩ := hrel
      have HR := Lib.hid (HG.out.below hbr)
      have B5 := Lib.hid (BB.out.trans (hbr.mono BB.out.size))
      obtain ⟨y0, y1, _⟩ := HR.out.at 1 rfl
      cases hE : eachO f T (l.take k) with
      | none =>
        rw [hE] at hU
        have eN := Lib.hid (hFl.out.trans (each_none hE))
        replace hU := Lib.hid hU
        clear hbr hE
        by_cases hlt : k < m
        · go_wp2_with fail
          go_ret2
          rw [eN.out]
          exact ⟨X, xc, rfl, hU.out, B5.out⟩
        · go_wp2_with fail
          go_ret2
          rw [eN.out]
          exact ⟨X, xc, rfl, hU.out, B5.out⟩
      | some U =>
        rw [hE] at hU
        replace hU : rBy (New w.heap.size wr) wr [.slice X U.length xc] U := hU
        have hUle : LeT U s.2.1 := (each_le hfle _ _ _ hE).trans hTle
        have hUl : U.length = 256 := hUle.len.trans hls.out
        replace hU := Lib.hid hU
        by_cases hlt : k < m
        case neg =>
          have eN : Hid (F t a = some U) := Lib.hid (by rw [hFl.out, ← hE, List.take_of_length_le (by rw [hlm.out]; omega)])
          clear hbr hE hUle hUl
          go_wp2_with fail
          go_ret2
          rw [eN.out]
          exact ⟨X, xc, rfl, hU.out, B5.out⟩
        obtain ⟨x, hx⟩ : ∃ x, l[k]? = some x := ⟨_, List.getElem?_eq_getElem (by rw [hlm.out]; exact hlt)⟩
        have hst := Lib.hid (each_step hE hx)
        have hxr := hrf.out x (List.mem_of_getElem? hx)
        have hIt : rIts (Old wr) wr [.slice Z m zc] l := HR.out.at 0 rfl
        obtain ⟨ad5, E5, ce5, rfl, _, _, _, FX⟩ := its_old hIt hx
        obtain ⟨⟨_, _, _, z3, _⟩, _⟩ := FX wr (Below.refl _ _)
        clear FX hIt hE
        have i4 : (0 : Int) ≤ (k : Int) := by omega
        have i5 : (k : Int) < (m : Int) := by omega
        obtain ⟨z, hzz⟩ : ∃ z, x.2.1 = z := ⟨_, rfl⟩
        rw [hzz] at z3 hxr hst
        replace hx := Lib.hid hx
        replace hzz := Lib.hid hzz
        by_cases hz0 : z = 0
        · subst hz0
          clear hUle hUl
          go_wp2_with fail
          go_roundw
          case rel => exact ⟨k + 1, by omega, by go_num, by rw [hst.out, if_pos rfl]; exact ⟨X, xc, rfl, hU.out⟩, by rw [hst.out, if_pos rfl], hbr⟩
          case measure => simp [intOf]; omega
        · obtain ⟨r, hr, r8, r256⟩ : ∃ r : Nat, z = r ∧ 8 ≤ r ∧ r < 256 := ⟨z.toNat, by omega, by omega, by omega⟩
          have j3 : (z == 0) = false := by simpa using hz0
          rw [if_neg hz0, show z.toNat = r by omega] at hst
          replace hst : Hid (eachO f T (l.take (k + 1)) = f U r) := hst
          by_cases hl0 : lw = 0
          · subst hl0
            replace hst : Hid (eachO f T (l.take (k + 1)) = dnO U r) := Lib.hid (by rw [hst.out, hf0.out rfl])
            have hle := Lib.hid (less9_any (.slice X U.length xc) U r hUl r256 wr (stab_by.drop hU.out))
            rw [← hr] at hle
            generalize dnO U r = Y at *
            replace hr := Lib.hid hr
            replace hbr := Lib.hid hbr
            clear hUle hUl hz0 r8 r256 hxr
            go_wp2_with fail
            with_reducible refine hle.out.mono ?_
            rintro e w6 ⟨A6, c6, rfl, h6, hb6⟩
            replace h6 := Lib.hid (stab_by.mono h6 B5.out.size)
            replace hb6 := Lib.hid (hbr.out.trans (hb6.mono hbr.out.size))
            clear hle
            go_wp2_with fail
            go_roundw
            case rel => exact ⟨k + 1, by omega, by go_num, by rw [hst.out]; exact ⟨A6, c6, rfl, h6.out⟩, by rw [hst.out], hb6.out⟩
            case measure => simp [intOf]; omega
          · obtain ⟨j, hj⟩ : ∃ j : Nat, lw = (j : Int) + 1 := ⟨(lw - 1).toNat, by have := hlw0.out; omega⟩
            have j4 : (lw == 0) = false := by simpa using hl0
            have j5 : (0 : Int) ≤ lw - 1 := by omega
            have j6 : lw - 1 ≤ 9223372036854775807 := by have := hlw5.out; omega
            replace hst : Hid (eachO f T (l.take (k + 1)) = lvF s.1 (j + 1) U r) := Lib.hid (by rw [hst.out, hf1.out j hj])
            have hcl := Lib.hid (hrec j (fun h0 => by have := hlow.out h0; omega) (.agg #[.slice A s.1.1.length ca, .slice B s.1.2.length cb, .slice N s.2.1.length cn, .slice L s.2.2.length cl]) (.slice X U.length xc) U r wr (HR.out.at 4 rfl) (stab_by.drop hU.out) hUle r8 r256)
            rw [← hr, show (j : Int) = lw - 1 by omega] at hcl
            generalize lvF s.1 (j + 1) U r = Y at *
            obtain ⟨k0, k1, k2, k3, _⟩ := HR.out.at 3 rfl
            replace hr := Lib.hid hr
            replace hj := Lib.hid hj
            replace hbr := Lib.hid hbr
            clear hUle hUl hz0 r8 r256 hxr hl0
            go_wp2_with fail
            with_reducible refine hcl.out.mono ?_
            rintro e w6 ⟨A6, c6, rfl, h6, hb6⟩
            replace h6 := Lib.hid (stab_by.mono h6 B5.out.size)
            replace hb6 := Lib.hid (hbr.out.trans (hb6.mono hbr.out.size))
            clear hcl
            go_wp2_with fail
            go_roundw
            case rel => exact ⟨k + 1, by omega, by go_num, by rw [hst.out]; exact ⟨A6, c6, rfl, h6.out⟩, by rw [hst.out], hb6.out⟩
            case measure => simp [intOf]; omega
  · have q1 : (0 : Int) ≤ lv := by omega
    have q2 : (lw != lv) = false := by
      rcases hlv with h | h
      · exact absurd h hn
      · simp [h]
    clear hlv
    go_enter Tryz.func48, Tryz.ntmps48
    go_upto_region 1 with fail
    clear hw1
    go_wp2_with fail
    with_reducible refine hL.out.mono ?_
    rintro e w2 ⟨A2, c2, rfl, h2, hb2⟩
    obtain ⟨ad, rfl, hc⟩ := hz.out w2 hb2
    replace HG := Lib.hid ((HG.out.below hb2).add (F := NewB w.heap.size _ _) (stab_by.mono h2 BB.out.size) (lasts_newB _ _ _))
    replace BB := Lib.hid (BB.out.trans (hb2.mono BB.out.size))
    obtain ⟨k0, k1, k2, k3, _⟩ := HG.out.at 1 rfl
    have ks : Hid (Sto (Old w2) w2 (.agg #[.slice A s.1.1.length ca, .slice B s.1.2.length cb, .slice N s.2.1.length cn, .slice L s.2.2.length cl]) s) := Lib.hid (HG.out.at 2 rfl)
    clear hL hb2 h2
    go_wp2_with fail
    with_reducible refine (hRd.out _ _ ks.out).mono ?_
    rintro e w3 ⟨Z, zc, rfl, h3, hb3⟩
    obtain ⟨w4, hw4, G4, _, hb4, _⟩ := bag_node (HG.out.below hb3) (Below.refl _ _) (.int .i64 lw) (.slice Z m zc)
    replace HG := Lib.hid (G4.add (F := OldIs _ _) (stab_its.old h3 hb4) (lasts_oldIs _ _))
    replace BB := Lib.hid (BB.out.trans ((hb3.trans (hb4.mono hb3.size)).mono BB.out.size))
    clear k0 k1 k2 k3 ks h3 hb3 hb4 G4 hRd hc hz
    go_upto_region 5 with fail
    clear hw4
    obtain ⟨y0, y1, _⟩ := HG.out.at 1 rfl
    go_wp2_with fail
    clear y0 y1
    go_loopw [10, 11, 14] (fun vo vb vi wr => ∃ k : Nat, k ≤ m ∧ vi = .int .i64 k ∧ (∃ X xc, vo = .slice X ((eachO f T (l.take k)).getD []).length xc ∧ rBy (New w.heap.size wr) wr [.slice X ((eachO f T (l.take k)).getD []).length xc] ((eachO f T (l.take k)).getD [])) ∧ vb = .bool (eachO f T (l.take k)).isSome ∧ Below w4.heap.size w4 wr) (fun _ _ vi _ => m - (intOf vi).toNat)
    case atStart => exact ⟨0, by omega, rfl, ⟨A2, c2, rfl, HG.out.at 2 rfl⟩, rfl, Below.refl _ _⟩
    case round =>
      obtain ⟨k, hk, rfl, ⟨X, xc, rfl, hU⟩, rfl, hbr⟩ := hrel
      have HR := Lib.hid (HG.out.below hbr)
      have B5 := Lib.hid (BB.out.trans (hbr.mono BB.out.size))
      obtain ⟨y0, y1, _⟩ := HR.out.at 1 rfl
      cases hE : eachO f T (l.take k) with
      | none =>
        rw [hE] at hU
        have eN := Lib.hid (hFl.out.trans (each_none hE))
        replace hU := Lib.hid hU
        clear hbr hE
        by_cases hlt : k < m
        · go_wp2_with fail
          go_ret2
          rw [eN.out]
          exact ⟨X, xc, rfl, hU.out, B5.out⟩
        · go_wp2_with fail
          go_ret2
          rw [eN.out]
          exact ⟨X, xc, rfl, hU.out, B5.out⟩
      | some U =>
        rw [hE] at hU
        replace hU : rBy (New w.heap.size wr) wr [.slice X U.length xc] U := hU
        have hUle : LeT U s.2.1 := (each_le hfle _ _ _ hE).trans hTle
        have hUl : U.length = 256 := hUle.len.trans hls.out
        replace hU := Lib.hid hU
        by_cases hlt : k < m
        case neg =>
          have eN : Hid (F t a = some U) := Lib.hid (by rw [hFl.out, ← hE, List.take_of_length_le (by rw [hlm.out]; omega)])
          clear hbr hE hUle hUl
          go_wp2_with fail
          go_ret2
          rw [eN.out]
          exact ⟨X, xc, rfl, hU.out, B5.out⟩
        obtain ⟨x, hx⟩ : ∃ x, l[k]? = some x := ⟨_, List.getElem?_eq_getElem (by rw [hlm.out]; exact hlt)⟩
        have hst := Lib.hid (each_step hE hx)
        have hxr := hrf.out x (List.mem_of_getElem? hx)
        have hIt : rIts (Old wr) wr [.slice Z m zc] l := HR.out.at 0 rfl
        obtain ⟨ad5, E5, ce5, rfl, _, _, _, FX⟩ := its_old hIt hx
        obtain ⟨⟨_, _, _, z3, _⟩, _⟩ := FX wr (Below.refl _ _)
        clear FX hIt hE
        have i4 : (0 : Int) ≤ (k : Int) := by omega
        have i5 : (k : Int) < (m : Int) := by omega
        obtain ⟨z, hzz⟩ : ∃ z, x.2.1 = z := ⟨_, rfl⟩
        rw [hzz] at z3 hxr hst
        replace hx := Lib.hid hx
        replace hzz := Lib.hid hzz
        by_cases hz0 : z = 0
        · subst hz0
          clear hUle hUl
          go_wp2_with fail
          go_roundw
          case rel => exact ⟨k + 1, by omega, by go_num, by rw [hst.out, if_pos rfl]; exact ⟨X, xc, rfl, hU.out⟩, by rw [hst.out, if_pos rfl], hbr⟩
          case measure => simp [intOf]; omega
        · obtain ⟨r, hr, r8, r256⟩ : ∃ r : Nat, z = r ∧ 8 ≤ r ∧ r < 256 := ⟨z.toNat, by omega, by omega, by omega⟩
          have j3 : (z == 0) = false := by simpa using hz0
          rw [if_neg hz0, show z.toNat = r by omega] at hst
          replace hst : Hid (eachO f T (l.take (k + 1)) = f U r) := hst
          by_cases hl0 : lw = 0
          · subst hl0
            replace hst : Hid (eachO f T (l.take (k + 1)) = dnO U r) := Lib.hid (by rw [hst.out, hf0.out rfl])
            have hle := Lib.hid (less9_any (.slice X U.length xc) U r hUl r256 wr (stab_by.drop hU.out))
            rw [← hr] at hle
            generalize dnO U r = Y at *
            replace hr := Lib.hid hr
            replace hbr := Lib.hid hbr
            clear hUle hUl hz0 r8 r256 hxr
            go_wp2_with fail
            with_reducible refine hle.out.mono ?_
            rintro e w6 ⟨A6, c6, rfl, h6, hb6⟩
            replace h6 := Lib.hid (stab_by.mono h6 B5.out.size)
            replace hb6 := Lib.hid (hbr.out.trans (hb6.mono hbr.out.size))
            clear hle
            go_wp2_with fail
            go_roundw
            case rel => exact ⟨k + 1, by omega, by go_num, by rw [hst.out]; exact ⟨A6, c6, rfl, h6.out⟩, by rw [hst.out], hb6.out⟩
            case measure => simp [intOf]; omega
          · obtain ⟨j, hj⟩ : ∃ j : Nat, lw = (j : Int) + 1 := ⟨(lw - 1).toNat, by have := hlw0.out; omega⟩
            have j4 : (lw == 0) = false := by simpa using hl0
            have j5 : (0 : Int) ≤ lw - 1 := by omega
            have j6 : lw - 1 ≤ 9223372036854775807 := by have := hlw5.out; omega
            replace hst : Hid (eachO f T (l.take (k + 1)) = lvF s.1 (j + 1) U r) := Lib.hid (by rw [hst.out, hf1.out j hj])
            have hcl := Lib.hid (hrec j (fun h0 => by have := hlow.out h0; omega) (.agg #[.slice A s.1.1.length ca, .slice B s.1.2.length cb, .slice N s.2.1.length cn, .slice L s.2.2.length cl]) (.slice X U.length xc) U r wr (HR.out.at 4 rfl) (stab_by.drop hU.out) hUle r8 r256)
            rw [← hr, show (j : Int) = lw - 1 by omega] at hcl
            generalize lvF s.1 (j + 1) U r = Y at *
            obtain ⟨k0, k1, k2, k3, _⟩ := HR.out.at 3 rfl
            replace hr := Lib.hid hr
            replace hj := Lib.hid hj
            replace hbr := Lib.hid hbr
            clear hUle hUl hz0 r8 r256 hxr hl0
            go_wp2_with fail
            with_reducible refine hcl.out.mono ?_
            rintro e w6 ⟨A6, c6, rfl, h6, hb6⟩
            replace h6 := Lib.hid (stab_by.mono h6 B5.out.size)
            replace hb6 := Lib.hid (hbr.out.trans (hb6.mono hbr.out.size))
            clear hcl
            go_wp2_with fail
            go_roundw
            case rel => exact ⟨k + 1, by omega, by go_num, by rw [hst.out]; exact ⟨A6, c6, rfl, h6.out⟩, by rw [hst.out], hb6.out⟩
            case measure => simp [intOf]; omega
/-- At each level, and at any. -/
theorem left_level (s : Rm) (hm : mayR s = true) : ∀ l : Nat, LeftIs s l (lvF s.1 (l + 1)) := by
  intro l
  induction l using Nat.strongRecOn with
  | ind l ih =>
    refine left_step s hm l (lvF s.1 (l + 1)) (fun t a => ?_) (fun j hj => ih j (by have := hj (by omega); omega))
    show lvS s.1 l (lvF s.1 l) t a = _
    unfold lvS
    cases dnO t a with
    | none => rfl
    | some t' =>
      show (if 1 < (t[a]?.getD 0).toNat then some t' else _) = (if 1 < (t[a]?.getD 0).toNat then some t' else _)
      by_cases h1 : 1 < (t[a]?.getD 0).toNat
      · rw [if_pos h1, if_pos h1]
      · rw [if_neg h1, if_neg h1]
        by_cases h2 : reN (seenD s.1 a) = 0 ∧ (reV (seenD s.1 a)).1 = (l : Int)
        · rw [if_pos h2, if_pos ⟨h2.1, .inr h2.2⟩, h2.2]
          rfl
        · rw [if_neg h2, if_neg (fun h => h2 ⟨h.1, h.2.resolve_left (by omega)⟩)]
theorem left_any (s : Rm) (hm : mayR s = true) : LeftIs s (-1) (lfO s.1) := by
  refine left_step s hm (-1) (lfO s.1) (fun t a => ?_) (fun j _ => left_level s hm j)
  unfold lfO
  cases dnO t a with
  | none => rfl
  | some t' =>
    show (if 1 < (t[a]?.getD 0).toNat then some t' else _) = (if 1 < (t[a]?.getD 0).toNat then some t' else _)
    by_cases h1 : 1 < (t[a]?.getD 0).toNat
    · rw [if_pos h1, if_pos h1]
    · rw [if_neg h1, if_neg h1]
      by_cases h2 : reN (seenD s.1 a) = 0
      · rw [if_pos h2, if_pos ⟨h2, .inl (by decide)⟩]
      · rw [if_neg h2, if_neg (fun h => h2 h.1)]
end Go.Proofs.YtmdlgnlfgfhkmaaGreat

/-
  slices.Chunk at a slice of 256 bytes, in parts of 128. Conditions: those that each lemma states.
-/
namespace Go.Proofs.YtmdlgnlfgfhkmaaGreat
open Go.RowKit Go.Shelf
attribute [local go_sem] Oper.semAt_some

/-- What a round keeps: all that lay below block n₀, and the two boxes from Bs on. -/
def Keeps2 (n₀ Bs : Nat) (A B : World) : Prop := Below n₀ A B ∧ B.cell? ⟨Bs, 0, none⟩ = A.cell? ⟨Bs, 0, none⟩ ∧ B.cell? ⟨Bs + 1, 0, none⟩ = A.cell? ⟨Bs + 1, 0, none⟩
theorem Keeps2.trans {n₀ Bs : Nat} {A B C : World} (h : Keeps2 n₀ Bs A B) (h' : Keeps2 n₀ Bs B C) : Keeps2 n₀ Bs A C := ⟨h.1.trans h'.1, h'.2.1.trans h.2.1, h'.2.2.trans h.2.2⟩
theorem Keeps2.refl (n₀ Bs : Nat) (A : World) : Keeps2 n₀ Bs A A := ⟨Below.refl _ _, rfl, rfl⟩
theorem Keeps2.below {n₀ Bs : Nat} {A B : World} (h : Below n₀ A B) (hB : Bs + 1 < n₀) : Keeps2 n₀ Bs A B := ⟨h, h.cell (p := ⟨Bs, 0, none⟩) (by show Bs < n₀; omega), h.cell (p := ⟨Bs + 1, 0, none⟩) hB⟩
theorem keeps2_b {W w : World} {Bs n₀ : Nat} (hBs : Bs + 1 < w.heap.size) (hn₀ : n₀ ≤ w.heap.size) (l : Nat) (o o' : Obj) (hl : w.heap.size ≤ l) (h1 : W.heap[l]? = some o) (h2 : o.isCells = false) (h3 : o.isWalk = false) : Keeps2 n₀ Bs W (W.putObj l o') :=
  ⟨belowK_b hn₀ W l o o' hl h1 h2 h3, World.cell?_of_block (World.putObj_heap_other (k := Bs) (by omega)), World.cell?_of_block (World.putObj_heap_other (k := Bs + 1) (by omega))⟩
theorem grown_drawn (w : World) (n : Nat) (row : Option Nat) : w.grownBy (w.drewN n) row := ⟨rfl, rfl, rfl, Nat.le_refl _, fun _ _ _ => rfl⟩

end Go.Proofs.YtmdlgnlfgfhkmaaGreat

/-
  Package count: Write, which ranges over slices.Chunk. Conditions: those that each lemma states.
-/
namespace Go.Proofs.YtmdlgnlfgfhkmaaGreat
open Go.RowKit Go.Shelf
attribute [local go_sem] Oper.semAt_some

theorem rBy_piece {ok : Addr → Prop} {w : World} {ad : Addr} {n c : Nat} {b : List UInt8} (h : rBy ok w [.slice (some ad) n c] b) (k m cap : Nat) (hk : k + m ≤ b.length) (hm : m ≤ cap) (hc : cap ≤ 9223372036854775807) : rBy ok w [.slice (some (ad.add k)) m cap] ((b.drop k).take m) := by
  obtain ⟨A, c', e, _, _, h4⟩ := h
  cases e
  have hl : ((b.drop k).take m).length = m := by simp; omega
  refine ⟨some (ad.add k), cap, by rw [hl], by rw [hl]; exact hm, hc, fun i x hi => ?_⟩
  have him : i < m := by rw [← hl]; exact (List.getElem?_eq_some_iff.1 hi).1
  have hi' : b[k + i]? = some x := by
    rw [List.getElem?_take_of_lt him, List.getElem?_drop] at hi
    exact hi
  obtain ⟨ad', vs, e1, e2, e3, e4⟩ := h4 (k + i) x hi'
  cases e1
  refine ⟨ad.add k, vs, rfl, e2, fun j v hj => ?_, e4⟩
  have := e3 j v hj
  rw [add_add', show k + (i * 1 + j) = (k + i) * 1 + j by omega]
  exact this

/-! ### The two writes, plain -/
def halfT (t : List UInt8) (b : Bool) : List UInt8 := if b then t.drop 128 else t.take 128
/-- The disk, the next place, and the first error, behind some halves. -/
def stepW (t : List UInt8) (s : Dk × Int × Int) (b : Bool) : Dk × Int × Int := (wrR s.1 s.2.1 (halfT t b), s.2.1 + 1, if s.2.2 = 0 then wErr s.1 s.2.1 (halfT t b) else s.2.2)
def runW (d : Dk) (p : Int) (t : List UInt8) (l : List Bool) : Dk × Int × Int := l.foldl (stepW t) (d, p, 0)
theorem runW_snoc (d : Dk) (p : Int) (t : List UInt8) (l : List Bool) (b : Bool) : runW d p t (l ++ [b]) = stepW t (runW d p t l) b := by simp [runW, List.foldl_append]
theorem foldW_place (t : List UInt8) : ∀ (l : List Bool) (s : Dk × Int × Int), (l.foldl (stepW t) s).2.1 = s.2.1 + (l.length : Int)
  | [], s => by simp
  | b :: l, s => by
    rw [List.foldl_cons, foldW_place t l]
    simp only [stepW, List.length_cons]
    omega
theorem runW_place (d : Dk) (p : Int) (t : List UInt8) (l : List Bool) : (runW d p t l).2.1 = p + (l.length : Int) := foldW_place t l _
theorem runW_stuck {d : Dk} {p : Int} {t : List UInt8} {l : List Bool} {b : Bool} (h : (runW d p t l).2.2 ≠ 0) : (runW d p t (l ++ [b])).2.2 = (runW d p t l).2.2 := by rw [runW_snoc]; simp [stepW, h]
theorem put_one {W : World} {g : Nat} {a u : Value} {t : TypeId} (h : W.heap[g]? = some (.cells #[a] t (0, 0))) : ∃ W1, W.setCell ⟨g, 0, none⟩ u = W1 ∧ W1.heap[g]? = some (.cells #[u] t (0, 0)) ∧ W.grownBy W1 (some g) ∧ W1.heap.size = W.heap.size :=
  ⟨_, rfl, by simp [World.setCell, Array.getElem?_modify, h], grow_put (p := ⟨g, 0, none⟩) (grow_refl W (some g)) rfl u, by simp⟩
theorem one_cell {W : World} {g : Nat} {a : Value} {t : TypeId} (h : W.heap[g]? = some (.cells #[a] t (0, 0))) : W.cell? ⟨g, 0, none⟩ = some a ∧ W.frozen? ⟨g, 0, none⟩ = false ∧ g < W.heap.size :=
  ⟨by simp [World.cell?, h], by simp [World.frozen?, h], (Array.getElem?_eq_some_iff.1 h).1⟩
theorem keepsFrom_below {B : Nat} {W W' : World} (h : Below W.heap.size W W') : KeepsFrom B W W' := ⟨h.size, fun k _ _ hk _ => (h.block k (Array.getElem?_eq_some_iff.1 hk).1).trans hk⟩
theorem keepsFrom_put {B : Nat} {W W' : World} {g : Nat} {cs : Array Value} {t : TypeId} (hg : W.grownBy W' (some g)) (h : W.heap[g]? = some (.cells cs t (0, 0))) : KeepsFrom B W W' :=
  ⟨hg.size, fun k o _ hk ho => (hg.block k (Array.getElem?_eq_some_iff.1 hk).1 (fun e => by
    simp only [Option.some.injEq] at e
    subst e
    rw [h] at hk
    cases hk
    cases ho)).trans hk⟩
theorem block_kept {W W' : World} {row : Option Nat} {g : Nat} {cs : Array Value} {t : TypeId} (h : W.heap[g]? = some (.cells cs t (0, 0))) (hg : W.grownBy W' row) (hrow : ∀ r, row = some r → ∃ o : Obj, W.heap[r]? = some o ∧ o.isCells = false) : W'.heap[g]? = some (.cells cs t (0, 0)) :=
  (grownBy_keeps_cells hg hrow h rfl).trans h
theorem dsk_kept_old {W W' : World} {row : Option Nat} {v : Value} {d : Dk} (h : Dsk (Old W) W v d) (hg : W.grownBy W' row) (hrow : ∀ r, row = some r → ∃ o : Obj, W.heap[r]? = some o ∧ o.isCells = false) : Dsk (Old W') W' v d :=
  h.map fun _ _ hp hc => ⟨Nat.lt_of_lt_of_le hp hg.size, cell_kept hc hg hrow⟩
theorem dsk_kept_new {W W' : World} {row : Option Nat} {v : Value} {d : Dk} {lo : Nat} (h : Dsk (New lo W) W v d) (hg : W.grownBy W' row) (hrow : ∀ r, row = some r → ∃ o : Obj, W.heap[r]? = some o ∧ o.isCells = false) : Dsk (New lo W') W' v d :=
  h.map fun _ _ hp hc => ⟨⟨hp.1, Nat.lt_of_lt_of_le hp.2.1 hg.size, (frozen_kept hc hg hrow).trans hp.2.2⟩, cell_kept hc hg hrow⟩

/-- Three boxes that are made one behind the other. -/
theorem box_dde (w : World) (a b : Value) : ∃ w3, ((w.alloc (.cells #[a, b] 25)).alloc (.cells #[.slice none 0 0, .slice none 0 0] 25)).alloc (.cells #[.int .i64 0] 35) = w3 ∧ w3.heap[w.heap.size]? = some (.cells #[a, b] 25 (0, 0)) ∧
    w3.heap[w.heap.size + 1]? = some (.cells #[.slice none 0 0, .slice none 0 0] 25 (0, 0)) ∧ w3.heap[w.heap.size + 2]? = some (.cells #[.int .i64 0] 35 (0, 0)) ∧ w3.heap.size = w.heap.size + 3 ∧ Below w.heap.size w w3 := by
  refine ⟨_, rfl, alloc_block (alloc_block (heap_alloc_new _ _)), alloc_block ?_, ?_, by simp, ((((Below.refl _ w).alloc (Nat.le_refl _) _).alloc (by simp) _).alloc (by simp; omega) _)⟩
  · have := heap_alloc_new (w.alloc (.cells #[a, b] 25)) (.cells #[.slice none 0 0, .slice none 0 0] 25)
    rwa [World.size_alloc] at this
  · have := heap_alloc_new ((w.alloc (.cells #[a, b] 25)).alloc (.cells #[.slice none 0 0, .slice none 0 0] 25)) (.cells #[.int .i64 0] 35)
    rwa [World.size_alloc, World.size_alloc] at this

/-- What stands between two rounds. -/
def BtW (w : World) (d : Dk) (p : Int) (t : List UInt8) (g : Nat) (pre : List Bool) (W : World) : Prop :=
  (∃ A c B e, (runW d p t pre).2.2 = 0 ∧ Bx W w.heap.size A c B e (runW d p t pre).1 ∧ (pre ≠ [] → Dsk (New (g + 3) W) W (.agg #[.slice A (runW d p t pre).1.1.length c, .slice B (runW d p t pre).1.2.length e]) (runW d p t pre).1) ∧
    W.heap[g]? = some (.cells #[.int .i64 (p + (pre.length : Int))] 3 (0, 0)) ∧ W.heap[w.heap.size + 1]? = some (.cells #[.slice none 0 0, .slice none 0 0] 25 (0, 0)) ∧ W.heap[w.heap.size + 2]? = some (.cells #[.int .i64 0] 35 (0, 0)) ∧ g + 3 ≤ W.heap.size) ∧ Below w.heap.size w W
/-- What stands where a write was refused. -/
def EndW (w : World) (d : Dk) (p : Int) (t : List UInt8) (cd : Code) (pre : List Bool) (W : World) : Prop :=
  (cd = .ret ∧ (runW d p t pre).2.2 ≠ 0 ∧ W.heap[w.heap.size + 1]? = some (.cells #[.slice none 0 0, .slice none 0 0] 25 (0, 0)) ∧ W.heap[w.heap.size + 2]? = some (.cells #[.int .i64 (runW d p t pre).2.2] 35 (0, 0))) ∧ Below w.heap.size w W
theorem ownFrom_bt (w : World) (d : Dk) (p : Int) (t : List UInt8) (g B : Nat) (hB : w.heap.size ≤ B) : OwnFrom B (BtW w d p t g) :=
  OwnFrom.and (Own.from (fun s A B row hs hg hr => by
    obtain ⟨a, c, b, e, h0, h1, h2, h3, h4, h5, h6⟩ := hs
    exact ⟨a, c, b, e, h0, ⟨block_kept h1.1 hg hr, dsk_kept_old h1.2 hg hr⟩, fun hn => dsk_kept_new (h2 hn) hg hr, block_kept h3 hg hr, block_kept h4 hg hr, block_kept h5 hg hr, Nat.le_trans h6 hg.size⟩) _) (ownFrom_below (Nat.le_refl _) hB)
theorem ownFrom_end (w : World) (d : Dk) (p : Int) (t : List UInt8) (cd : Code) (B : Nat) (hB : w.heap.size ≤ B) : OwnFrom B (EndW w d p t cd) :=
  OwnFrom.and (Own.from (fun _ _ _ _ hs hg hr => ⟨hs.1, hs.2.1, block_kept hs.2.2.1 hg hr, block_kept hs.2.2.2 hg hr⟩) _) (ownFrom_below (Nat.le_refl _) hB)

theorem cw_run {d : Dk} {s : Int} {t : List UInt8} (hm : mayB d = true) (hs : sideB s = true) (ht : mayT t = true) : (runW d (4 + 2 * s) t [false, true]).2.2 = cwE d s t ∧ (runW d (4 + 2 * s) t [false, true]).1 = wrR (wrR d (4 + 2 * s) (t.take 128)) (5 + 2 * s) (t.drop 128) := by
  have e1 : 4 + 2 * s + 1 = 5 + 2 * s := by omega
  simp only [runW, List.foldl_cons, List.foldl_nil, stepW, halfT, cwE, hm, hs, ht, if_true, e1]
  simp

end Go.Proofs.YtmdlgnlfgfhkmaaGreat

/-
  The document's answers of layer 7: Write. Conditions: those that each lemma states.
-/
namespace Go.Proofs.YtmdlgnlfgfhkmaaGreat
open Go.RowKit

/-- Cells that hold no empty slice. -/
def NZ (ok : Addr → Prop) (w : World) : Addr → Prop := fun p => ok p ∧ w.cell? p ≠ some (.slice none 0 0)
theorem by_nz {ok : Addr → Prop} {w : World} {cs : List Value} {x : List UInt8} (h : rBy ok w cs x) : rBy (NZ ok w) w cs x := by
  obtain ⟨A, cap, h1, h2, h3, h4⟩ := h
  refine ⟨A, cap, h1, h2, h3, fun i y hi => ?_⟩
  obtain ⟨ad, vs, e1, e2, e3, e4⟩ := h4 i y hi
  refine ⟨ad, vs, e1, e2, fun j u hj => ⟨⟨(e3 j u hj).1, ?_⟩, (e3 j u hj).2⟩, e4⟩
  unfold rU8 at e4
  subst e4
  have := List.mem_of_getElem? hj
  simp only [List.mem_singleton] at this
  rw [(e3 j u hj).2, this]
  simp
theorem slice_nz {ok : Addr → Prop} {w : World} {u : Value} {x : List UInt8} (h : rBy ok w [u] x) (hx : x ≠ []) : u ≠ .slice none 0 0 := by
  obtain ⟨A, c, rfl, _⟩ := rBy_open h
  intro e
  simp only [Value.slice.injEq] at e
  exact hx (List.eq_nil_of_length_eq_zero e.2.1)
theorem rows_nz {ok : Addr → Prop} {w : World} {cs : List Value} {xss : List (List UInt8)} (h : rSl 1 rBy ok w cs xss) (hn : ∀ x ∈ xss, x ≠ []) : rSl 1 rBy (NZ ok w) w cs xss := by
  obtain ⟨A, cap, h1, h2, h3, h4⟩ := h
  refine ⟨A, cap, h1, h2, h3, fun i y hi => ?_⟩
  obtain ⟨ad, vs, e1, e2, e3, e4⟩ := h4 i y hi
  refine ⟨ad, vs, e1, e2, fun j u hj => ⟨⟨(e3 j u hj).1, ?_⟩, (e3 j u hj).2⟩, by_nz e4⟩
  match vs, e2 with
  | [v], _ =>
    have := List.mem_of_getElem? hj
    simp only [List.mem_singleton] at this
    rw [(e3 j u hj).2, this]
    exact fun e => slice_nz e4 (hn y (List.mem_of_getElem? hi)) (by simpa using e)
theorem wts_nz {ok : Addr → Prop} {w : World} {cs : List Value} {ws : List Wt} (h : rSl 2 rWt ok w cs ws) (hn : ∀ x ∈ ws, x.2 ≠ []) : rSl 2 rWt (NZ ok w) w cs ws := by
  obtain ⟨A, cap, h1, h2, h3, h4⟩ := h
  refine ⟨A, cap, h1, h2, h3, fun i y hi => ?_⟩
  obtain ⟨ad, vs, e1, e2, e3, e4⟩ := h4 i y hi
  obtain ⟨v, rfl, b1, b2, hv⟩ := rWt_open e4
  refine ⟨ad, _, e1, e2, fun j u hj => ⟨⟨(e3 j u hj).1, ?_⟩, (e3 j u hj).2⟩, rWt_mk b1 b2 (by_nz hv)⟩
  have := List.mem_of_getElem? hj
  simp only [List.mem_cons, List.not_mem_nil, or_false] at this
  rw [(e3 j u hj).2]
  rcases this with rfl | rfl
  · simp
  · exact fun e => slice_nz hv (hn y (List.mem_of_getElem? hi)) (by simpa using e)
theorem dsk_nz {ok : Addr → Prop} {w : World} {v : Value} {d : Dk} (h : Dsk ok w v d) (h1 : ∀ x ∈ d.1, x ≠ []) (h2 : ∀ x ∈ d.2, x.2 ≠ []) : Dsk (NZ ok w) w v d := by
  obtain ⟨a, b, e, r1, r2⟩ := h
  exact ⟨a, b, e, rows_nz r1 h1, wts_nz r2 h2⟩
theorem full_may {d : Dk} (h : mayB d = true) : (∀ x ∈ d.1, x ≠ []) ∧ (∀ x ∈ d.2, x.2 ≠ []) := by
  obtain ⟨_, _, h1, h2⟩ := may_of h
  refine ⟨fun x hx e => ?_, fun x hx e => ?_⟩
  · obtain ⟨i, hi⟩ := List.getElem?_of_mem hx
    have := h1 i x hi
    rw [e] at this
    cases this
  · obtain ⟨i, hi⟩ := List.getElem?_of_mem hx
    have := (h2 i x hi).2.2
    rw [e] at this
    cases this
theorem full_wr (d : Dk) (n : Int) (xs : List UInt8) : (∀ x ∈ (wrR d n xs).1, x ≠ []) ∧ (∀ x ∈ (wrR d n xs).2, x.2 ≠ []) := by
  by_cases he : wErr d n xs = 0
  · exact full_may (may_wrR he).1
  · rw [show wrR d n xs = emptyD by simp [wrR, he]]
    exact ⟨fun x hx => absurd hx (by simp [emptyD]), fun x hx => absurd hx (by simp [emptyD])⟩
/-- A store into a box that holds two empty slices turns nothing of a disk that holds none. -/
theorem dsk_put_zero {W W9 : World} {g : Nat} {t : TypeId} {v : Value} {d : Dk} (h : Dsk (Old W) W v d) (hd : (∀ x ∈ d.1, x ≠ []) ∧ (∀ x ∈ d.2, x.2 ≠ [])) (hz : W.heap[g]? = some (.cells #[.slice none 0 0, .slice none 0 0] t (0, 0))) (hg : W.grownBy W9 (some g)) : Dsk (Old W9) W9 v d :=
  (dsk_nz h hd.1 hd.2).map fun p u hp hc => by
    have hn : p.block ≠ g := fun e => by
      refine hp.2 ?_
      rw [hc]
      unfold World.cell? at hc
      rw [e, hz] at hc
      dsimp only at hc
      split at hc
      · cases hc
      · rcases hk : p.off with _ | _ | k
        · rw [hk] at hc; exact hc.symm
        · rw [hk] at hc; exact hc.symm
        · rw [hk] at hc; simp at hc
    exact ⟨Nat.lt_of_lt_of_le hp.1 hg.size, (World.cell?_of_block (hg.block _ hp.1 (by simpa using hn))).trans hc⟩
theorem dsk_apart {w0 w w' : World} {v : Value} {d : Dk} (h : Dsk (Apart w0 w w') w' v d) (hs : w0.heap.size ≤ w'.heap.size) : Dsk (Old w') w' v d :=
  h.map fun _ _ hp hc => ⟨hp.elim (fun hp => Nat.lt_of_lt_of_le hp hs) (fun hp => hp.2), hc⟩
/-- A store into a block between stays apart. -/
theorem dsk_apart_put {w0 w w' W : World} {v : Value} {d : Dk} (h : Dsk (Apart w0 w w') w' v d) (hs : w0.heap.size < w.heap.size) (hs2 : w0.heap.size ≤ w'.heap.size) (hg : w'.grownBy W (some w0.heap.size)) : Dsk (Old W) W v d :=
  h.map fun p _ hp hc => by
    have hlt : p.block < w'.heap.size := hp.elim (fun hp => Nat.lt_of_lt_of_le hp hs2) (fun hp => hp.2)
    have hn : p.block ≠ w0.heap.size := fun e => by rcases hp with hp | hp <;> omega
    exact ⟨Nat.lt_of_lt_of_le hlt hg.size, (World.cell?_of_block (hg.block _ hlt (by simpa using hn))).trans hc⟩
theorem dsk_empty_any (ok : Addr → Prop) (w : World) : Dsk ok w (.agg #[.slice none 0 0, .slice none 0 0]) emptyD :=
  ⟨_, _, rfl, ⟨none, 0, rfl, by simp [emptyD], by omega, fun i x h => by simp [emptyD] at h⟩, ⟨none, 0, rfl, by simp [emptyD], by omega, fun i x h => by simp [emptyD] at h⟩⟩
end Go.Proofs.YtmdlgnlfgfhkmaaGreat

/-
  A store into a box of noughts turns nothing of a store that may be. Conditions: those that each lemma states.
-/
namespace Go.Proofs.YtmdlgnlfgfhkmaaGreat
open Go.RowKit

theorem nz_apart {W : World} {g : Nat} {cs : Array Value} {t : TypeId} {p : Addr} {u : Value} (hz : W.heap[g]? = some (.cells cs t (0, 0))) (hcs : ∀ c ∈ cs, c = .slice none 0 0) (hc : W.cell? p = some u) (hn : W.cell? p ≠ some (.slice none 0 0)) : p.block ≠ g := fun e => by
  refine hn ?_
  rw [hc]
  unfold World.cell? at hc
  rw [e, hz] at hc
  dsimp only at hc
  split at hc
  · cases hc
  · obtain ⟨hlt, hu⟩ := Array.getElem?_eq_some_iff.1 hc
    rw [← hu]
    exact congrArg some (hcs _ (Array.getElem_mem hlt))
theorem sto_nz {ok : Addr → Prop} {w : World} {v : Value} {s : Rm} (h : Sto ok w v s) (hd : (∀ x ∈ s.1.1, x ≠ []) ∧ (∀ x ∈ s.1.2, x.2 ≠ [])) : Sto (NZ ok w) w v s := by
  obtain ⟨a, b, n, l, e, h1, h2, h3⟩ := h
  exact ⟨a, b, n, l, e, dsk_nz h1 hd.1 hd.2, by_nz h2, by_nz h3⟩
def FullR (s : Rm) : Prop := (∀ x ∈ s.1.1, x ≠ []) ∧ (∀ x ∈ s.1.2, x.2 ≠ [])
theorem full_rm {s : Rm} (h : mayR s = true) : FullR s := full_may (mayR_of h).1
theorem full_empty : FullR emptyR := ⟨fun x hx => absurd hx (by simp [emptyR, emptyD]), fun x hx => absurd hx (by simp [emptyR, emptyD])⟩
theorem full_tk (s : Rm) (b : List UInt8) : FullR (tkV s b) := by
  by_cases h : tkE s b = 0
  · exact full_rm (tk_may h)
  · rw [(tk_no h).2]; exact full_empty
theorem full_sh (s : Rm) (n : Int) : FullR (shV s n) := by
  by_cases h : shE s n = 0
  · exact full_rm (sh_may h)
  · rw [sh_no h]; exact full_empty
theorem sto_put_zero {W W9 : World} {g : Nat} {cs : Array Value} {t : TypeId} {v : Value} {s : Rm} (h : Sto (Old W) W v s) (hd : FullR s) (hz : W.heap[g]? = some (.cells cs t (0, 0))) (hcs : ∀ c ∈ cs, c = .slice none 0 0) (hg : W.grownBy W9 (some g)) : Sto (Old W9) W9 v s :=
  (sto_nz h hd).map fun p u hp hc => by
    have hn := nz_apart hz hcs hc hp.2
    exact ⟨Nat.lt_of_lt_of_le hp.1 hg.size, (World.cell?_of_block (hg.block _ hp.1 (by simpa using hn))).trans hc⟩
end Go.Proofs.YtmdlgnlfgfhkmaaGreat
