/-
  For every node and list of bytes NodeBack answers true and leaves its arguments as they were. No condition.
-/
import Derived.Test.YtpcajbcdahcehaaBnd3
import Derived.StillTailTactics
import Derived.Deep.CutBlock
import Derived.Deep.CutRange
namespace Go.Proofs.Ytpcajbcdahcehaa.nodeBack
open Go.ChangeShapes Go.WideShapes Go.RowKit

theorem own : ownKnob Try.prog.godebug = none := by kernel_rfl
theorem laidOut : laidOutB Try.prog = true := by kernel_rfl

set_option maxRecDepth 100000 in
set_option maxHeartbeats 16000000 in
theorem walk (v : Value) (n : Nd) (Q : Option Addr) (nb cb : Nat) (b : List UInt8) (hnb0 : b.length = nb) (hlb : nb ≤ cb) (hcb : cb ≤ 9223372036854775807) (w : World) (hv : Nod (Old w) w v n) (hb : Byt w w.heap.size Q b) :
    Calls Try.prog 5 #[v, .slice Q nb cb] w fun e w' => e = .returned (.bool true) ∧ Below w.heap.size w w' := by
  have rb : rBy (Old w) w [.slice Q nb cb] b := by rw [← hnb0]; exact byt_rBy hb (by omega) hcb
  have hnb := Lib.hid hnb0
  have HIN := Lib.hid hv.inN
  obtain ⟨A, c, rfl, hin, l1, m1, hA⟩ := hv.open
  obtain ⟨l, hl⟩ : ∃ l, n.1 = l := ⟨_, rfl⟩
  obtain ⟨m, hm⟩ : ∃ m, n.2.length = m := ⟨_, rfl⟩
  rw [hl, hm] at hv ⊢
  rw [hm] at l1 hA
  have G0 := ((((Bag.nil w).add (F := OldB _ _) rb (lasts_oldB _ _)).add (F := OldN _ _) hv (lasts_oldN _ _)).add (F := OldIs _ _) hA (lasts_oldIs _ _))
  obtain ⟨w1, hw1, G1, B1, _, s1⟩ := bag_node G0 (Below.refl _ _) (.int .i64 l) (.slice A m c)
  have BB := Lib.hid B1
  have HG := Lib.hid G1
  replace hw1 := Lib.hid hw1
  replace hl := Lib.hid hl
  replace hm := Lib.hid hm
  clear G0 G1 B1 s1 hv hA hin rb hb hnb0
  go_enter Try.func5, Try.ntmps5
  go_upto_region 1 with fail
  rw [hw1.out]
  clear hw1
  go_wp2_with fail
  with_reducible refine (alive6 _).mono ?_
  rintro e3 w2 ⟨rfl, hb3⟩
  replace HG := Lib.hid (HG.out.below hb3)
  replace BB := Lib.hid (BB.out.trans (hb3.mono BB.out.size))
  clear hb3
  obtain ⟨z1, z2, _⟩ := HG.out.at 0 rfl
  have HI : Hid (rIts (Old w2) w2 [.slice A m c] n.2) := Lib.hid (HG.out.at 1 rfl)
  go_wp2_with fail
  with_reducible refine (greatI_any _ n.2 _ HI.out).mono ?_
  rintro e4 w3 ⟨rfl, hb4⟩
  replace HG := Lib.hid (HG.out.below hb4)
  replace BB := Lib.hid (BB.out.trans (hb4.mono BB.out.size))
  clear hb4 HI z1 z2
  obtain ⟨z1, z2, _⟩ := HG.out.at 0 rfl
  obtain ⟨g, hg⟩ : ∃ g, greatI n.2 = g := ⟨_, rfl⟩
  rw [hg]
  replace hg := Lib.hid hg
  cases g with
  | true =>
    go_wp2_with fail
    go_ret
    exact ⟨rfl, BB.out⟩
  | false =>
  by_cases hbig : 10000 < nb
  · have j1 : (10000 : Int) < nb := by omega
    go_wp2_with fail
    go_ret
    exact ⟨rfl, BB.out⟩
  have j1 : ¬ (10000 : Int) < nb := by omega
  have HN : Hid (Nod (Old w3) w3 (.agg #[.int .i64 l, .slice A m c]) n) := Lib.hid (HG.out.at 2 rfl)
  go_wp2_with fail
  with_reducible refine (nodeWrite_any _ n _ HN.out).mono ?_
  rintro e5 w4 ⟨a, rfl, ha, hb5⟩
  obtain ⟨T, tc, rfl, _, _, _⟩ := id (rBy_open ha)
  obtain ⟨la, hla⟩ : ∃ k, (wrN n).length = k := ⟨_, rfl⟩
  rw [hla] at ha ⊢
  replace HG := Lib.hid ((HG.out.below hb5).add (F := OldB _ _) (stab_by.drop ha) (lasts_oldB _ _))
  replace BB := Lib.hid (BB.out.trans (hb5.mono BB.out.size))
  replace hla := Lib.hid hla
  clear z1 z2 ha hb5 HN
  obtain ⟨E, hE⟩ : ∃ E, chkN n = E := ⟨_, rfl⟩
  rw [hE]
  replace hE := Lib.hid hE
  go_upto_if 30 with fail
  go_cut [0, 8, 9] from 31 to 48 (fun _ _ _ wx => Below w4.heap.size w4 wx)
  case first =>
    rcases bool_two (mayN n) with hmay | hmay
    · have h8 : E = 8 := by rw [← hE.out]; exact chkN_bad hmay
      subst h8
      replace hmay := Lib.hid hmay
      go_wp2_with fail
      go_meet
      exact Below.refl _ _
    · have h0 : E = 0 := by rw [← hE.out]; exact chkN_ok hmay
      subst h0
      have hwx := Lib.hid (show wrN n = blkN n by simp [wrN, hmay])
      have hback := Lib.hid (read_blkN hmay HIN.out)
      have h128 : la = 128 := by rw [← hla.out, hwx.out]; exact blkN_length hmay
      subst h128
      have HT : Hid (rBy (Old w4) w4 [.slice T 128 tc] (blkN n)) := Lib.hid (by rw [← hwx.out]; exact HG.out.at 0 rfl)
      replace hmay := Lib.hid hmay
      go_wp2_with fail
      with_reducible refine (nodeRead_any _ _ _ HT.out).mono ?_
      rintro e7 w7 ⟨u7, rfl, hu7, hb7⟩
      rw [hback.out.1]
      rw [hback.out.2] at hu7
      obtain ⟨D, dc, rfl, _⟩ := id hu7.open
      rw [hl.out, hm.out] at hu7 ⊢
      obtain ⟨w8, hw8, HG8, hb8, _, s8⟩ := bag_node ((HG.out.below hb7).add (F := OldN _ _) hu7.drop (lasts_oldN _ _)) (Below.refl _ _) (.int .i64 l) (.slice D m dc)
      have HG9 := Lib.hid HG8
      have B8 := Lib.hid (hb7.trans (hb8.mono hb7.size))
      clear hu7 hb7 HG8 hb8 s8
      obtain ⟨z1, z2, _⟩ := HG9.out.at 0 rfl
      obtain ⟨x1, x2, _⟩ := HG9.out.at 3 rfl
      have HR : Hid (Nod (Old w8) w8 (.agg #[.int .i64 l, .slice D m dc]) n) := Lib.hid (HG9.out.at 1 rfl)
      have HX : Hid (Nod (Old w8) w8 (.agg #[.int .i64 l, .slice A m c]) n) := Lib.hid (HG9.out.at 5 rfl)
      go_upto_region 7 with fail
      clear hw8
      go_wp2_with fail
      with_reducible refine (sameN_any _ _ n n _ HR.out HX.out).mono ?_
      rintro e9 w9 ⟨rfl, hb9⟩
      rw [sameN_self]
      have B9 := Lib.hid (B8.out.trans (hb9.mono B8.out.size))
      clear hb9
      go_wp2_with fail
      go_meet
      exact B9.out
  case rest =>
  obtain ⟨w5, rfl⟩ : ∃ w5 : World, w5 = wc := ⟨_, rfl⟩
  replace HG := Lib.hid (HG.out.below hcut)
  replace BB := Lib.hid (BB.out.trans (hcut.mono BB.out.size))
  clear hcut
  have HQ : Hid (rBy (Old w5) w5 [.slice Q nb cb] b) := Lib.hid (HG.out.at 4 rfl)
  go_wp2_with fail
  with_reducible refine (nodeRead_any _ b _ HQ.out).mono ?_
  rintro e7 w7 ⟨u7, rfl, hu7, hb7⟩
  obtain ⟨D, dc, rfl, _⟩ := id hu7.open
  obtain ⟨w8, hw8, HG8, hb8, _, s8⟩ := bag_node ((HG.out.below hb7).add (F := OldN _ _) hu7.drop (lasts_oldN _ _)) (Below.refl _ _) (.int .i64 (reV b).1) (.slice D (reV b).2.length dc)
  replace HG := Lib.hid HG8
  replace BB := Lib.hid ((BB.out.trans (hb7.mono BB.out.size)).trans (hb8.mono (BB.out.trans (hb7.mono BB.out.size)).size))
  clear hu7 hb7 HG8 hb8 s8
  obtain ⟨s, hs⟩ : ∃ s, reV b = s := ⟨_, rfl⟩
  obtain ⟨F, hF⟩ : ∃ F, reN b = F := ⟨_, rfl⟩
  rw [hs] at HG hw8 ⊢
  rw [hF]
  replace hs := Lib.hid hs
  replace hF := Lib.hid hF
  go_upto_region 10 with fail
  clear hw8
  obtain ⟨z1, z2, _⟩ := HG.out.at 0 rfl
  by_cases hF0 : F = 0
  case neg =>
    have f3 := reN_no (b := b) (by rw [hF.out]; exact hF0)
    rw [hs.out] at f3
    subst f3
    have t0 : (F != 0) = true := by simpa using hF0
    replace hF0 := Lib.hid hF0
    have HR : Hid (Nod (Old w8) w8 _ zeroN) := Lib.hid (HG.out.at 1 rfl)
    have HZ := Lib.hid (nod_zero (Old w8) w8)
    go_wp2_with fail
    with_reducible refine (sameN_any _ _ zeroN zeroN _ HR.out HZ.out).mono ?_
    rintro e9 w9 ⟨rfl, hb9⟩
    rw [sameN_self]
    have B9 := Lib.hid (BB.out.trans (hb9.mono BB.out.size))
    clear hb9
    go_wp2_with fail
    go_ret
    exact ⟨rfl, B9.out⟩
  · subst hF0
    obtain ⟨k1, k2, _⟩ := blkN_read hF.out
    rw [hs.out] at k1 k2
    have hck := Lib.hid (chkN_ok k1)
    have hwr := Lib.hid (show wrN s = b by simp [wrN, k1, k2])
    replace k1 := Lib.hid k1
    replace k2 := Lib.hid k2
    have HR : Hid (Nod (Old w8) w8 _ s) := Lib.hid (HG.out.at 1 rfl)
    go_wp2_with fail
    with_reducible refine (nodeWrite_any _ s _ HR.out).mono ?_
    rintro e9 w9 ⟨u9, rfl, hu9, hb9⟩
    rw [hck.out]
    rw [hwr.out] at hu9
    replace HG := Lib.hid (HG.out.below hb9)
    replace BB := Lib.hid (BB.out.trans (hb9.mono BB.out.size))
    have HQ9 : rBy (Old w9) w9 [.slice Q nb cb] b := HG.out.at 6 rfl
    have sq := rBy_str0 HQ9
    have su := rBy_str0 (stab_by.drop hu9)
    have c4 : (b == b) = true := by simp
    clear HQ9 hu9 hb9 z1 z2
    go_wp2_with fail
    go_ret
    exact ⟨rfl, BB.out⟩

/-! ### The row's step -/
set_option maxRecDepth 100000 in
theorem lifted (os : Os) (started : os.Started) (H : Type) (enc : TypeId × Value → H) :
    ReturnsInHanded {} Try.checked os 5 .any (Rows.nodeBackSpec.pre6 enc Try.prog Try.f5 Rows.nodeBackRow.domain false) (Rows.nodeBackSpec.post enc Try.prog Try.f5 false true false false) := by
  refine returnsInHanded_of_change (C := Try.checked) own started (by kernel_rfl) Try.func5
    (ChangeSpec.witness6 (enc := enc) (C := Try.checked) false ⟨#[], #[.agg #[.int .i64 0, .slice none 0 0], .slice none 0 0], []⟩ 8 (by kernel_rfl) (by kernel_rfl) (by kernel_rfl) (by kernel_rfl)) ?_
  intro W base args ds gs before hval0 hW _ _
  have hval : ∀ (j : Nat) t v, Try.f5.params[j]? = some t → args[j]? = some v → Value.okWide Try.prog W .any base t v := hval0
  have hW' := hW
  obtain ⟨p, q, hA0, hV, _, _, _⟩ := hW
  have hA : DataW.TrodAll enc Try.prog W 0 (fun _ => true) true Try.f5.params.toList args.toList ds p := hA0
  rw [Try.params5] at hA hval
  obtain ⟨v0, vs0, d0, ds0, p0, q0, hargs, rfl, _, h0, r0⟩ := trodAll_cons hA
  obtain ⟨v1, vs1, d1, ds1, p1, q1, rfl, rfl, _, h1, r1⟩ := trodAll_cons r0
  obtain ⟨rfl, rfl, _⟩ := trodAll_nil r1
  obtain rfl : args = #[v0, v1] := by cases args; simp_all
  obtain ⟨rfl, _⟩ := trodVars_none hV
  obtain ⟨d0x, y0⟩ := open_node (hval 0 26 v0 rfl rfl) h0
  obtain ⟨A1, n1, c1, x1, rfl, l1, m1, b1, y1⟩ := open_bytes Try.underlying31 Try.underlying5 (by kernel_rfl) (hval 1 31 v1 rfl rfl) h1
  clear hA0 hval0
  refine (walk v0 d0x A1 n1 c1 x1 y1 l1 m1 W y0 b1).mono fun e W' ⟨he, hb⟩ => ?_
  subst he
  exact ⟨_, rfl, law_post laidOut (by rw [Try.params5]; decide +kernel) (by kernel_rfl) Try.underlying4 rfl ⟨rfl, by simp [Rows.nodeBackSpec], rfl⟩ hW' hb⟩

theorem over : Rows.nodeBackRow.holds Try.pinned (OpenSpec.ofChange Rows.nodeBackSpec) :=
  OpenClaim.holds_of_wide 5 Try.f5 rfl rfl rfl rfl rfl rfl rfl ⟨rfl, rfl, rfl, rfl, rfl⟩ rfl rfl rfl rfl rfl (by kernel_rfl) Try.func5 (by kernel_rfl)
    (of_decide_eq_true (by kernel_rfl)) (by unfold Func.isWrapper; first | (rw [if_pos (by decide +kernel)]; kernel_rfl) | (rw [if_neg (by decide +kernel)]; exact ⟨rfl, rfl⟩))
    (fun os started H enc _ => lifted os started H enc)

end Go.Proofs.Ytpcajbcdahcehaa.nodeBack
namespace Go.Proofs.Ytpcajbcdahcehaa
theorem nodeBack_proved : Rows.NodeBackSaid := nodeBack.over
end Go.Proofs.Ytpcajbcdahcehaa
