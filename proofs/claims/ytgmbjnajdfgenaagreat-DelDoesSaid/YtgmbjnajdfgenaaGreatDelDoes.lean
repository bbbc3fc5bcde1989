/-
  For every store, root and key DelDoes answers true and leaves its arguments as they were. No condition.
-/
import Derived.Test.YtgmbjnajdfgenaaGreatBnd6
import Derived.StillTailTactics
open Go.RowKit.Below renaming refl → Qa
namespace Go.Proofs.YtgmbjnajdfgenaaGreat.delDoes
open Go.ChangeShapes Go.WideShapes Go.RowKit

theorem own : ownKnob Tryz.prog.godebug = none := by kernel_rfl
theorem laidOut : laidOutB Tryz.prog = true := by kernel_rfl

set_option maxRecDepth 100000 in
set_option maxHeartbeats 16000000 in
theorem walk (v : Value) (s : Rm) (a : Int) (_hn : (Lit.int .i64 a).wf = true) (kk : Ky) (w : World) (h : Sto (Old w) w v s) :
    Calls Tryz.prog 4 #[v, .int .i64 a, kyV kk] w fun e w' => e = .returned (.bool true) /\ Below w.heap.size w w' := by
  clear _hn;obtain ⟨A, ca, B, cb, N, cn, L, cl, rfl, _⟩ := id h.open;have HG0 : Bag w [Zbu (.agg #[.slice A s.1.1.length ca, .slice B s.1.2.length cb, .slice N s.2.1.length cn, .slice L s.2.2.length cl]) s] := (Bag.nil w).add (F := Zbu _ s) h (Yj _ _);obtain ⟨w0, hw0, hg0, hB0, _, hs0⟩ := Xd HG0 (Qa _ _) (.slice A s.1.1.length ca) (.slice B s.1.2.length cb) (.slice N s.2.1.length cn) (.slice L s.2.2.length cl) 29;obtain ⟨w1, hw1, hg1, hB1, _, hs1⟩ := V9 hg0 (Qa _ _) (.int .u8 (kk.1.toNat : Int)) (.int .u32 kk.2.1) (.int .u32 kk.2.2);have HG : Hid (Bag w1 _) := Za hg1;have BB := Za (hB0.trans (hB1.mono hB0.size));replace hs1 := Za hs1;replace hs0 := Za hs0;clear HG0 hg1 hg0 h hB1 hB0;unfold kyV
  go_enter Tryz.func4, Tryz.ntmps4
  go_upto_region 1 with fail
  clear hw1 hw0;obtain ⟨z10, z11, z12, z13, _⟩ := HG.out.at 1 rfl;have k1 : Hid (Sto (Old w1) w1 (.agg #[.slice A s.1.1.length ca, .slice B s.1.2.length cb, .slice N s.2.1.length cn, .slice L s.2.2.length cl]) s) := Za (HG.out.at 2 rfl)
  go_wp2_with fail
  with_reducible refine (Zth _ s _ k1.out).mono ?_
  rintro e2 w2 ⟨rfl, hb2⟩;replace HG := Za (HG.out.below hb2);replace BB := Za (BB.out.trans (hb2.mono BB.out.size));clear hb2 k1 z10 z11 z12 z13;cases hgs : Zi0 s with
  | true =>
    go_wp2_with fail
    go_ret;exact ⟨rfl, BB.out⟩
  | false =>
  have hsm := Za (Zh8 hgs);clear hgs;obtain ⟨z10, z11, z12, z13, _⟩ := HG.out.at 1 rfl;have k1 : Hid (Sto (Old w2) w2 (.agg #[.slice A s.1.1.length ca, .slice B s.1.2.length cb, .slice N s.2.1.length cn, .slice L s.2.2.length cl]) s) := Za (HG.out.at 2 rfl)
  go_upto_region 3 with fail
  go_wp2_with fail
  with_reducible refine (Znx _ s hsm.out _ k1.out).mono ?_
  rintro e4 w4 ⟨X0, x0, X1, x1, X2, x2, X3, x3, rfl, t4, hb4⟩;obtain ⟨w5, hw5, G5, _, hb5, _⟩ := Xd (HG.out.below hb4) (Qa _ _) (.slice X0 s.1.1.length x0) (.slice X1 s.1.2.length x1) (.slice X2 s.2.1.length x2) (.slice X3 s.2.2.length x3) 29;have HG3 : Hid (Bag w5 _) := Za (G5.add (F := Zbu _ _) (t4.drop.below hb5) (Yj _ _));replace BB := Za (BB.out.trans ((hb4.trans (hb5.mono hb4.size)).mono BB.out.size));replace HG := HG3;have C3 := Za (Qa w5.heap.size w5);clear hb4 hb5 G5 t4 k1 z10 z11 z12 z13
  go_upto_region 4 with fail
  clear hw5
  -- the answers, as letters
  have hdm := Za (Z4a (s := s) (a := a) (k := kk));obtain ⟨D, hD⟩ : ∃ q, Zja s a kk = q := ⟨_, rfl⟩
  obtain ⟨te, T, tn⟩ := D;rw [hD] at hdm;have hdd := Za (fun (ya yb yc yd : Option Addr × Nat × Nat) W hW => Ztk ya yb yc yd s a kk W hW);have hrd := Za (fun v W hW => Znb v s a kk W hW);unfold Z6a at hdd;unfold LdR at hrd;rw [hD] at hdd hrd;unfold kyV at hdd hrd
  dsimp only at hdd hrd hdm
  replace hD := Za hD;have g1 : (tn != tn) = false := by simp
  have g2 : (te != te) = false := by simp
  -- HG: 0 Zbu own, 1 box own, 2 key, 3 box s, 4 Zbu s
  obtain ⟨z10, z11, z12, z13, _⟩ := HG.out.at 1 rfl;obtain ⟨t0, t1, t2, _⟩ := HG.out.at 2 rfl;have k1 : Hid (Sto (Old w5) w5 (.agg #[.slice X0 s.1.1.length x0, .slice X1 s.1.2.length x1, .slice X2 s.2.1.length x2, .slice X3 s.2.2.length x3]) s) := Za (HG.out.at 0 rfl);have k2 := Za (hdd.out (X0, s.1.1.length, x0) (X1, s.1.2.length, x1) (X2, s.2.1.length, x2) (X3, s.2.2.length, x3) _ k1.out)
  dsimp only at k2
  go_wp2_with fail
  with_reducible refine k2.out.mono ?_
  rintro e6 w6 ⟨⟨P0, P0n, p0⟩, ⟨Q0, Q0n, q0⟩, ⟨R0, R0n, r0⟩, ⟨K0, K0n, k0⟩, rfl, ht, hb⟩
  dsimp only at ht ⊢
  have G := (HG.out.below hb).add (F := Z6b w5.heap.size _ T) (ht.new C3.out.size (Qa _ _)) (Ztq _ _ _);obtain ⟨w7, hw, G', -, hbb, -⟩ := Xd G (Qa _ _) (.slice P0 P0n p0) (.slice Q0 Q0n q0) (.slice R0 R0n r0) (.slice K0 K0n k0) 29;replace HG := Za G';replace C3 := Za (C3.out.trans ((hb.trans (hbb.mono hb.size)).mono C3.out.size));clear G G' ht hb hbb k1 k2 z10 z11 z12 z13 t0 t1 t2 hdd
  go_upto_region 5 with fail
  clear hw
  -- 0 box a, 1 Z6b a, 2 Zbu own, 3 box own, 4 key, 5 box s, 6 Zbu s
  obtain ⟨z10, z11, z12, z13, _⟩ := HG.out.at 5 rfl;obtain ⟨t0, t1, t2, _⟩ := HG.out.at 4 rfl;have k1 : Hid (Sto (Old w7) w7 (.agg #[.slice A s.1.1.length ca, .slice B s.1.2.length cb, .slice N s.2.1.length cn, .slice L s.2.2.length cl]) s) := Za (HG.out.at 6 rfl)
  go_wp2_with fail
  with_reducible refine (hrd.out _ _ k1.out).mono ?_
  rintro e8 w8 ⟨⟨P1, P1n, p1⟩, ⟨Q1, Q1n, q1⟩, ⟨R1, R1n, r1⟩, ⟨K1, K1n, k1'⟩, rfl, ht, hb⟩
  dsimp only at ht ⊢
  have G := (HG.out.below hb).add (F := Zbu _ T) ht (Yj _ _);obtain ⟨w9, hw, G', -, hbb, -⟩ := Xd G (Qa _ _) (.slice P1 P1n p1) (.slice Q1 Q1n q1) (.slice R1 R1n r1) (.slice K1 K1n k1') 29;replace HG := Za G';replace C3 := Za (C3.out.trans ((hb.trans (hbb.mono hb.size)).mono C3.out.size));clear G G' ht hb hbb k1 z10 z11 z12 z13 t0 t1 t2 hrd
  go_upto_region 6 with fail
  clear hw
  -- 0 box b, 1 Zbu b, 2 box a, 3 Z6b a, ..
  obtain ⟨z10, z11, z12, z13, _⟩ := HG.out.at 2 rfl;obtain ⟨z20, z21, z22, z23, _⟩ := HG.out.at 0 rfl;have k1 : Hid (Sto (Old w9) w9 (.agg #[.slice P0 P0n p0, .slice Q0 Q0n q0, .slice R0 R0n r0, .slice K0 K0n k0]) T) := Za (Sto.drop (HG.out.at 3 rfl));have k2 : Hid (Sto (Old w9) w9 (.agg #[.slice P1 P1n p1, .slice Q1 Q1n q1, .slice R1 R1n r1, .slice K1 K1n k1']) T) := Za (HG.out.at 1 rfl)
  go_wp2_with fail
  with_reducible refine (Zgk _ _ T T _ k1.out k2.out).mono ?_
  rintro e18 w18 ⟨rfl, hb⟩;rw [Zj9];replace HG := Za (HG.out.below hb);replace C3 := Za (C3.out.trans (hb.mono C3.out.size));clear hb k1 k2 z10 z11 z12 z13 z20 z21 z22 z23
  -- what is answered is turned
  have kA : Hid (Sto (New w5.heap.size w18) w18 (.agg #[.slice P0 P0n p0, .slice Q0 Q0n q0, .slice R0 R0n r0, .slice K0 K0n k0]) T) := Za (HG.out.at 3 rfl);obtain ⟨A', a', B', b', N', n', L', l', e4, hDk, hNw, hLs⟩ := kA.out.open;simp only [Value.agg.injEq, Array.mk.injEq, List.cons.injEq, Value.slice.injEq, and_true] at e4;obtain ⟨⟨rfl, hP0, rfl⟩, ⟨rfl, hQ0, rfl⟩, ⟨rfl, hR0, rfl⟩, ⟨rfl, hK0, rfl⟩⟩ := e4;obtain ⟨_, _, _, _, ev, l1, m1, l2, m2, -, hWt⟩ := hDk.open;cases ev;obtain ⟨_, _, ev, lN, mN, HN⟩ := Zm hNw;cases ev;obtain ⟨_, _, ev, lL, mL, HL⟩ := Zm hLs;cases ev
  have hRK : Hid (R0n = K0n) := Za (by
    rcases hdm.out with e | e
    · rw [hR0, hK0, e]; rfl
    · rw [hR0, hK0, Z0 (Zw e).2.1, Z0 (Zw e).2.2])
  have hw9 : Hid (∀ x ∈ T.1.2, 9 < x.2.length) := Za (by
    rcases hdm.out with e | e
    · rw [e]; intro x hx; cases hx
    · intro x hx
      have := (Ze0 (Zw e).1).2.1 x hx
      omega)
  have HB := Za hWt;replace HN := Za HN;replace HL := Za HL;rw [<- hR0] at lN;rw [<- hK0] at lL;rw [<- hQ0] at l2;replace hP0 := Za hP0;replace hQ0 := Za hQ0;replace hR0 := Za hR0;replace hK0 := Za hK0;have BX := Za (HG.out.at 2 rfl);obtain ⟨z10, z11, z12, z13, _⟩ := HG.out.at 2 rfl;have lt0 : w6.heap.size < w18.heap.size := World.block_lt_of_cell? _ _ z10;have Y1 := Za z11;have Y2 := Za z12;have Y3 := Za z13;clear hDk hNw hLs hWt z10 z11 z12 z13 l1 m1
  go_wp2_with fail
  go_loopw [14] (fun i wr => ∃ j : Nat, j <= R0n /\ i = .int .i64 j /\ Za8 w5.heap.size w18 wr) (fun i _ => R0n - (intOf i).toNat)
  case atStart => exact ⟨0, by omega, rfl, Za8.refl _ _⟩
  case round =>
    obtain ⟨j, hj, rfl, hS⟩ := hrel;have z1 := hS.rest ⟨w6.heap.size, 2, none⟩ _ lt0 Y2.out (by simp);by_cases hlt : j < R0n
    · obtain ⟨bd, rfl, hok2, hcb⟩ := HN.out j (by rw [<- hR0.out]; exact hlt)
      obtain ⟨cd, rfl, hok3, hcc⟩ := HL.out j (by rw [<- hK0.out, <- hRK.out]; exact hlt);obtain ⟨y, hy⟩ := hS.byte (bd.add j) _ hok2.2.1 hcb;have hf := (hS.fro _ hok2.2.1).trans hok2.2.2;have hst : Za8 w5.heap.size w18 (wr.setCell (bd.add j) (.int .u8 9)) := hS.step hok2.1 hy 9;obtain ⟨wA, hwA⟩ : ∃ wA, wr.setCell (bd.add j) (.int .u8 9) = wA := ⟨_, rfl⟩
      rw [hwA] at hst;have z2 := hst.rest ⟨w6.heap.size, 3, none⟩ _ lt0 Y3.out (by simp);obtain ⟨y3, hy3⟩ := hst.byte (cd.add j) _ hok3.2.1 hcc;have hf3 := (hst.fro _ hok3.2.1).trans hok3.2.2;have hst3 := Za (show Za8 w5.heap.size w18 (wA.setCell (cd.add j) (.int .u8 9)) from hst.step hok3.1 hy3 9);have j5 : j < K0n := by rw [<- hRK.out]; exact hlt
      replace hok2 := Za hok2;replace hok3 := Za hok3;clear hcb hcc hS hst
      go_wp2_with fail
      go_roundw
      case rel => exact ⟨j + 1, by omega, by go_num, hst3.out⟩
      case measure => simp [intOf]; omega
    · have hS' := Za hS
      clear hS;obtain ⟨wo, rfl⟩ : ∃ wo : World, wo = wr := ⟨_, rfl⟩
      have C3' := C3
      go_wp2_with fail
      go_loopw [15] (fun i wi => ∃ k : Nat, k <= Q0n /\ i = .int .i64 k /\ Za8 w5.heap.size w18 wi) (fun i _ => Q0n - (intOf i).toNat)
      case atStart => exact ⟨0, by omega, rfl, hS'.out⟩
      case round =>
        clear z1 hS';obtain ⟨j2, hj2, rfl, hS⟩ := hrel;have z1 := hS.rest ⟨w6.heap.size, 1, none⟩ _ lt0 Y1.out (by simp);by_cases hlt2 : j2 < Q0n
        · obtain ⟨x, hx⟩ : ∃ x, T.1.2[j2]? = some x := ⟨_, List.getElem?_eq_getElem (by rw [<- hQ0.out]; exact hlt2)⟩
          obtain ⟨rd, u, rfl, _, hok, _, hc, hby, _, _⟩ := HB.out j2 x hx;obtain ⟨E, ce, rfl, lE, mE, HE'⟩ := Zm hby
          have HE := Za HE';obtain ⟨q, hq⟩ : ∃ q, x.2.length = q := ⟨_, rfl⟩
          have h9 := hw9.out x (List.mem_of_getElem? hx);rw [hq] at lE hc h9;have i9 : (9 : Int) < (q : Int) := by omega
          rw [Vn] at hc hok;replace hok := Za hok;clear HE' hby
          have c1 := hS.rest _ _ hok.out.2.1 hc (by simp);obtain ⟨bd, rfl, hok2, hcb⟩ := HE.out 9 (by rw [hq]; exact h9);obtain ⟨y, hy⟩ := hS.byte (bd.add 9) _ hok2.2.1 hcb;have hf := (hS.fro _ hok2.2.1).trans hok2.2.2;have hadd := Zz9 y;have hst := Za (hS.step hok2.1 hy (y + 1));rw [show bd.add 9 = ⟨bd.block, bd.off + 9, none⟩ from rfl] at hy hf hst;generalize (y + 1) = y' at *;replace hok2 := Za hok2;replace hx := Za hx;replace hq := Za hq;clear hcb hS
          go_wp2_with fail
          go_still_tail 18, (by kernel_rfl)
          change wpList _ _ _ _ _ wr.drew
          go_wp2
          go_roundw
          case rel => exact ⟨j2 + 1, by omega, by go_num, hst.out.drew⟩
          case measure => simp [intOf]; omega
        · have CD := Za (C3.out.trans hS.low)
          have HD := Za (HG3.out.below CD.out);have BD := Za (BB.out.trans (CD.out.mono BB.out.size));obtain ⟨z0, z1', z2, z3, _⟩ := HD.out.at 1 rfl;obtain ⟨y0, y1, y2, y3, _⟩ := HD.out.at 3 rfl;have k1 : Hid (Sto (Old wr) wr (.agg #[.slice X0 s.1.1.length x0, .slice X1 s.1.2.length x1, .slice X2 s.2.1.length x2, .slice X3 s.2.2.length x3]) s) := Za (HD.out.at 0 rfl);have k2 : Hid (Sto (Old wr) wr (.agg #[.slice A s.1.1.length ca, .slice B s.1.2.length cb, .slice N s.2.1.length cn, .slice L s.2.2.length cl]) s) := Za (HD.out.at 4 rfl);clear hS
          go_wp2_with fail
          with_reducible refine (Zgk _ _ s s _ k1.out k2.out).mono ?_
          rintro eF WF ⟨rfl, hbF⟩;rw [Zj9]
          go_wp2_with fail
          go_ret;exact ⟨rfl, BD.out.trans (hbF.mono BD.out.size)⟩

/-! ### The row's step -/
set_option maxRecDepth 100000 in
theorem lifted (os : Os) (started : os.Started) (H : Type) (enc : TypeId × Value -> H) :
    ReturnsInHanded {} Tryz.checked os 4 .any (Rows.delDoesSpec.pre6 enc Tryz.prog Tryz.f4 Rows.delDoesRow.domain false) (Rows.delDoesSpec.post enc Tryz.prog Tryz.f4 false true false false) := by
  refine returnsInHanded_of_change (C := Tryz.checked) own started (by kernel_rfl) Tryz.func4
    (ChangeSpec.witness6 (enc := enc) (C := Tryz.checked) false ⟨#[], #[.agg #[.slice none 0 0, .slice none 0 0, .slice none 0 0, .slice none 0 0], .int .i64 0, .agg #[.int .u8 0, .int .u32 0, .int .u32 0]], []⟩ 8 (by kernel_rfl) (by kernel_rfl) (by kernel_rfl) (by kernel_rfl)) ?_
  intro W base args ds gs before hval0 hW _ _;have hval : ∀ (j : Nat) t v, Tryz.f4.params[j]? = some t -> args[j]? = some v -> Value.okWide Tryz.prog W .any base t v := hval0;have hW' := hW;obtain ⟨p, q, hA0, hV, _, _, _⟩ := hW;have hA : DataW.TrodAll enc Tryz.prog W 0 (fun _ => true) true Tryz.f4.params.toList args.toList ds p := hA0;rw [Tryz.params4] at hA hval;obtain ⟨v0, vs0, d0, ds0, p0, q0, hargs, rfl, _, h0, r0⟩ := trodAll_cons hA;obtain ⟨v1, vs1, d1, ds1, p1, q1, rfl, rfl, _, h1, r1⟩ := trodAll_cons r0;obtain ⟨v2, vs2, d2, ds2, p2, q2, rfl, rfl, _, h2, r2⟩ := trodAll_cons r1;obtain ⟨rfl, rfl, _⟩ := trodAll_nil r2;obtain rfl : args = #[v0, v1, v2] := by cases args; simp_all
  obtain ⟨rfl, _⟩ := trodVars_none hV;obtain ⟨d0x, y0⟩ := Zsz (hval 0 29 v0 rfl rfl) h0;obtain ⟨a1, rfl, _, _, w1⟩ := open_int Tryz.underlying3 (hval 1 3 v1 rfl rfl) h1;obtain ⟨k2x, rfl, _⟩ := Zyw (hval 2 37 v2 rfl rfl) h2;clear hA0 hval0;refine (walk v0 d0x a1 w1 k2x W y0).mono fun e W' ⟨he, hb⟩=> ?_
  subst he;exact ⟨_, rfl, Z0t laidOut (by rw [Tryz.params4]; decide +kernel) (by kernel_rfl) Tryz.underlying4 rfl ⟨rfl, by simp [Rows.delDoesSpec], rfl⟩ hW' hb⟩

theorem over : Rows.delDoesRow.holds Tryz.pinned (OpenSpec.ofChange Rows.delDoesSpec) :=
  OpenClaim.holds_of_wide 4 Tryz.f4 rfl rfl rfl rfl rfl rfl rfl ⟨rfl, rfl, rfl, rfl, rfl⟩ rfl rfl rfl rfl rfl (by kernel_rfl) Tryz.func4 (by kernel_rfl)
    (of_decide_eq_true (by kernel_rfl)) (by unfold Func.isWrapper; first | (rw [if_pos (by decide +kernel)]; kernel_rfl) | (rw [if_neg (by decide +kernel)]; exact ⟨rfl, rfl⟩))
    (fun os started H enc _ => lifted os started H enc)

end Go.Proofs.YtgmbjnajdfgenaaGreat.delDoes
namespace Go.Proofs.YtgmbjnajdfgenaaGreat
theorem delDoes_proved : Rows.DelDoesSaid := delDoes.over
end Go.Proofs.YtgmbjnajdfgenaaGreat
