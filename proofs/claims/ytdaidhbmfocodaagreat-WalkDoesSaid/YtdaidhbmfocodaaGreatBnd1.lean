/-
  Lemmas on the program and on the document's answers, gathered: Base, Num, Code, Row, Clone, Rel, Disk, Any, Last, Clones, RefMay, Great, DevCheck, DevTwin, Same, Crc, SumOf, Own, Sup, SupChk, RefSame, Jump, Late, AnyB, KeepT, Gather, Seen. Conditions: those that each lemma states.
-/
import Derived.Test.YtdaidhbmfocodaaGreatRows
import Derived.WalkKit
import Derived.WalkLawsBesides
import Derived.WalkSpells
import Derived.ProofKit
import Derived.OpenShut
import Derived.Carry
import Derived.Laws.IdiomStrings
import Derived.BigQuiet
import Derived.Deep.DeepCutAuto
import Derived.Deep.RegionWith
import Derived.OwnWalk
import Derived.Laws.AppendOwn
import Derived.Maps.AppendAt
import Derived.Deep.QuietTactic
import Derived.Laws.BitsAllLaws
import Derived.Laws.BitsLemmas
import Derived.Outline
import Derived.Laws.Rows
import Derived.Laws.CopyOwn
import Derived.Laws.MakeOwn
import Derived.Lib.Hide
import Derived.Deep.Slices
import Derived.Lib.SmallJoins
import Derived.Orders
import Derived.Below
import Derived.Laws.World
import Derived.BigRegion
import Derived.Deep.CutBlock
import Derived.StillTailTactics
import Derived.IntWalk
import Derived.Laws.OwnMore
import Derived.RangeFuncNested
import Derived.RangeFuncBox
import Derived.RangeFuncBound
import Derived.RangeFuncCalls
import Derived.RangeFuncLeaves
import Derived.Shelf.Abstract
import Derived.Shelf.RegionOpen
import Derived.OwnWalkIn
import Derived.TacticsInMore
import Derived.LoopNIn
import Derived.LoopIn
/-
  Plain helpers for the laws of this seat: a slice that reads as bytes; the last step of a law's row, where the call left all that lay as it was. No condition of its own: every lemma bears its own premises.
-/
namespace Go.Proofs.YtdaidhbmfocodaaGreat
open Go.ChangeShapes Go.WideShapes Go.RowKit

/-! ### The last step of a law's row -/
section
variable {H : Type} {enc : TypeId × Value → H} {P : Program}

/-- The arguments read behind the call as they did before it, if nothing that lay has turned. -/
theorem args_stay (hl : laidOutB P = true) {W W' : World} {sp : Nat → Bool} : ∀ {ts : List TypeId} {vs : List Value} {ds : List (DataW H)} {ps : List MemPlace},
    (∀ t ∈ ts, P.readableRec t = true ∧ t < P.types.size) → DataW.TrodAll enc P W 0 (fun _ => true) true ts vs ds ps → (∀ p ∈ ps, W.sameAt W' p) → (∀ p ∈ ps, sp p.block = true) →
    DataW.TrodAll enc P W' 0 sp true ts vs ds ps
  | [], [], [], _, _, h, _, _ => h
  | _ :: _, _ :: _, _ :: _, _, ht, ⟨p, q, h1, h2, e⟩, hsame, hs =>
    ⟨p, q, WideElems.Trod_stays hl (ht _ (List.mem_cons.2 (Or.inl rfl))).1 (ht _ (List.mem_cons.2 (Or.inl rfl))).2 h1 (fun x hx => hsame x (by rw [e]; exact List.mem_append_left _ hx)) (fun x hx => hs x (by rw [e]; exact List.mem_append_left _ hx)),
     args_stay hl (fun t h => ht t (List.mem_cons.2 (Or.inr h))) h2 (fun x hx => hsame x (by rw [e]; exact List.mem_append_right _ hx)) (fun x hx => hs x (by rw [e]; exact List.mem_append_right _ hx)), e⟩

/-- A law's post: it answered true, and below the heap's old size nothing has turned. -/
theorem law_post {f : Func} {s : ChangeSpec} {apart fresh handsOn again : Bool} {W W' : World} {args : Array Value} {ds gs : List (DataW H)} {before : List MemPlace} {tb : TypeId}
    (hl : laidOutB P = true) (hts : ∀ t ∈ f.params.toList, P.readableRec t = true ∧ t < P.types.size) (hr : f.resultTypes = #[tb]) (htb : P.underlying tb = some .bool) (hv : s.vars = [])
    (hs : (s.fn H (ds ++ gs)).results = [.lit (.bool true)] ∧ (s.fn H (ds ++ gs)).args = ds ∧ (s.fn H (ds ++ gs)).vars = [])
    (hW : DataW.Whole enc P f.params.toList s.vars apart W args.toList ds gs before) (hb : Below W.heap.size W W') :
    s.post enc P f apart fresh handsOn again W args (.bool true) W' := by
  have hW0 := hW
  obtain ⟨p, q, hA, hV, hps, hz, hn⟩ := hW
  rw [hv] at hV
  obtain ⟨rfl, rfl⟩ := trodVars_none hV
  rw [List.append_nil] at hps
  have hlt : ∀ x ∈ before, x.block < W.heap.size := fun x hx => hW0.lt x hx
  have hold : ∀ x ∈ before, (fun b => decide (b < W.heap.size)) x.block = true := fun x hx => by simpa using hlt x hx
  have hargs : ∀ sp : Nat → Bool, (∀ x ∈ before, sp x.block = true) → DataW.TrodAll enc P W' 0 sp true f.params.toList args.toList (s.fn H (ds ++ [])).args before := fun sp hsp => by
    rw [hs.2.1]
    have hA' : DataW.TrodAll enc P W 0 (fun _ => true) true f.params.toList args.toList ds before := by rw [hps]; exact hA
    exact args_stay hl hts hA' (fun x hx => hb.same (hlt x hx)) hsp
  have hvars : ∀ sp : Nat → Bool, DataW.TrodVars enc P W' sp s.vars (s.fn H (ds ++ [])).vars [] := fun sp => by
    rw [hv, hs.2.2]
    exact rfl
  have hok := ok_one (P := P) (W' := W') (f := f) (v := .bool true) hr rfl (okWide_bool_mk htb true)
  have hres : ∀ (b : Nat) (sp : Nat → Bool) (hd : Bool), DataW.TrodAll enc P W' b sp hd f.resultTypes.toList ((Value.bool true).resultList f.resultTypes.size) (s.fn H (ds ++ [])).results [] := fun b sp hd => by
    rw [hs.1, hr]
    exact trodAll_cons_mk (shut_bool htb _) trodAll_mk0
  refine ⟨ds, [], before, [], before, [], hW0, hres _ _ _, hargs _ hold, hvars _, World.keptBut_mono (fun x hx => ⟨hx, Or.inr (by simpa using hx)⟩) (hb.frame (· ∈ before)), fun _ => ?_⟩
  refine ⟨hok, _, _, ([] ++ before) ++ [], ⟨[] ++ before, [], trodAll_append (hargs _ (fun _ _ => rfl)) (hres _ _ _), hvars _, rfl, ?_, ?_⟩, ?_⟩
  · intro b off hp
    have hin : MemPlace.cell b off ∈ before := by simpa using hp
    rw [hb.frozen (hlt _ hin)]
    exact hz b off hin
  · intro ha
    simpa using hn ha
  · intro x hx _
    simpa using hx
end

theorem str_eq (xs ys : List UInt8) : ((⟨xs.toArray⟩ : ByteArray) == ⟨ys.toArray⟩) = decide (xs = ys) := by
  have h : ((⟨xs.toArray⟩ : ByteArray) == ⟨ys.toArray⟩) = (xs.toArray == ys.toArray) := rfl
  rw [h, Bool.eq_iff_iff, decide_eq_true_iff, beq_iff_eq]
  simp

/-! ### A slice that reads as bytes -/
/-- The slice value '.slice A xs.length c' reads as the bytes xs, and lies below block B. -/
def Byt (w : World) (B : Nat) (A : Option Addr) (xs : List UInt8) : Prop :=
  0 < xs.length → ∃ ad, A = some ad ∧ ad.block < B ∧ ∀ j, j < xs.length → w.cell? (ad.add j) = some (.int .u8 ((xs[j]?.getD 0).toNat : Int))

theorem below_drewN {B : Nat} {a w : World} (h : Below B a w) (n : Nat) : Below B a (w.drewN n) := ⟨h.os, h.tape, h.output, h.size, h.block⟩
theorem add_block (a : Addr) (n : Nat) : (a.add n).block = a.block := by unfold Addr.add; split <;> rfl
theorem add_add' (a : Addr) (i j : Nat) : (a.add i).add j = a.add (i + j) := by
  unfold Addr.add
  by_cases hi : i = 0 <;> by_cases hj : j = 0 <;> simp [hi, hj, Nat.add_assoc]
section
variable {w w' : World} {B B' : Nat} {A : Option Addr} {xs : List UInt8}
theorem Byt.nil : Byt w B A [] := fun h => absurd h (by simp)
theorem Byt.keep (h : Byt w B A xs) (hk : ∀ p : Addr, p.block < B → w'.cell? p = w.cell? p) : Byt w' B A xs := fun hn => by
  obtain ⟨ad, e, hb, hc⟩ := h hn
  exact ⟨ad, e, hb, fun j hj => (hk _ (by rw [add_block]; exact hb)).trans (hc j hj)⟩
theorem Byt.more (h : Byt w B A xs) (hB : B ≤ B') : Byt w B' A xs := fun hn => by
  obtain ⟨ad, e, hb, hc⟩ := h hn
  exact ⟨ad, e, Nat.lt_of_lt_of_le hb hB, hc⟩
theorem Byt.below (h : Byt w B A xs) (hb : Below B w w') : Byt w' B A xs := h.keep fun _ hp => hb.cell hp
theorem Byt.drewN (h : Byt w B A xs) (n : Nat) : Byt (w.drewN n) B A xs := h
theorem Byt.drew (h : Byt w B A xs) : Byt w.drew B A xs := h
/-- A part of a slice that reads as bytes. -/
theorem Byt.part (h : Byt w B A xs) {k n : Nat} (hk : k + n ≤ xs.length) (hn : 0 < n) : ∃ ad, A = some ad ∧ Byt w B (some (ad.add k)) ((xs.drop k).take n) := by
  obtain ⟨ad, e, hb, hc⟩ := h (by omega)
  refine ⟨ad, e, fun _ => ⟨_, rfl, by rw [add_block]; exact hb, fun j hj => ?_⟩⟩
  have hj' : j < n := by simp at hj; omega
  rw [add_add', hc (k + j) (by omega)]
  simp [hj']
/-- 'string(b)'. -/
theorem Byt.str {P : Program} (h : Byt w B A xs) (src dst e : TypeId) (len cap : Nat) (hlen : xs.length = len) (hs : P.underlying src = some (.slice e)) (he : P.underlying e = some (.int .u8)) (hd : P.underlying dst = some .string) :
    (convert src dst (.slice A len cap)).run P w = .ok (.string ⟨xs.toArray⟩) w := by
  subst hlen
  rcases Nat.eq_zero_or_pos xs.length with h0 | h0
  · have hx : xs = [] := List.eq_nil_of_length_eq_zero h0
    subst hx
    rw [List.length_nil, run_convert_bytes_string w src dst e A 0 cap hs he hd]
    rcases A with _ | a
    · simp [Conv.bytesToString]
      rfl
    · rw [run_bytesToString w a 0 cap [] (by have := run_loadCells_list (P := P) w a [] (fun j v hj => by simp at hj); simpa using this)]
      rfl
  · obtain ⟨ad, rfl, _, hc⟩ := h h0
    exact run_convert_bytes_back w src dst e ad cap xs hs he hd (fun j hj => by rw [hc j hj]; simp [List.getElem?_eq_getElem hj])
end

theorem ret_bool {a b : Bool} (h : a = b) : Ending.returned (.bool a) = .returned (.bool b) := by rw [h]
theorem ret_int {k : IntKind} {a b : Int} (h : a = b) : Ending.returned (.int k a) = .returned (.int k b) := by rw [h]
theorem bstep {w w1 w2 : World} (h : Below w.heap.size w w1) (h2 : Below w1.heap.size w1 w2) : Below w.heap.size w w2 := h.trans (h2.mono h.size)
theorem balloc {w w1 : World} (h : Below w.heap.size w w1) (o : Obj) : Below w.heap.size w (w1.alloc o) := h.alloc h.size o

/-- A row of bytes of the call's own: it reads as bytes. -/
theorem own_byt {w : World} {base n : Nat} {t : TypeId} {v : Value} {xs : List UInt8} (h : w.ownsRow base t 1 v n (xs.map fun x => Value.int .u8 (x.toNat : Int))) :
    ∃ A cap, v = .slice A n cap ∧ n ≤ cap ∧ cap ≤ 9223372036854775807 ∧ Byt w w.heap.size A xs := by
  have hl : xs.length = n := by simpa using h.1
  rcases h.2 with ⟨rfl, h0⟩ | ⟨g, cap, cur, rfl, _, hg, hnc, hcm, _, _⟩
  · subst h0
    have : xs = [] := List.eq_nil_of_length_eq_zero hl
    subst this
    exact ⟨none, 0, rfl, by omega, by omega, Byt.nil⟩
  · refine ⟨_, cap, rfl, hnc, by unfold maxLen at hcm; exact hcm, fun _ => ⟨_, rfl, (Array.getElem?_eq_some_iff.1 hg).1, fun j hj => ?_⟩⟩
    exact h.cells (g := g) rfl j _ (by rw [List.getElem?_map, List.getElem?_eq_getElem hj]; rfl)

/-- Bytes as cells. -/
def u8s (xs : List UInt8) : List Value := xs.map fun x => Value.int .u8 (x.toNat : Int)
theorem u8s_append (xs ys : List UInt8) : u8s (xs ++ ys) = u8s xs ++ u8s ys := by simp [u8s]
/-- 'append(v, ys...)': v a row of the call's own, ys whatever reads as bytes. -/
theorem app_byt {P : Program} {w : World} (base t ty e : TypeId) (i : TypeInfo) (ht : P.underlying t = some (.slice e)) (hi : P.info? e = some i) (hz : i.zero = some (.int .u8 0)) (hsize : i.size = 1) (hby : i.bytes = 1)
    (v : Value) (n : Nat) (xs : List UInt8) (hown : w.ownsRow base e 1 v n (u8s xs)) (B : Nat) (A : Option Addr) (m c : Nat) (ys : List UInt8) (hy : Byt w B A ys) (hlen : ys.length = m) (hs : n + m ≤ 1000000000) (hbase : base ≤ w.heap.size) :
    ∃ v' w', (Builtin.append_ #[t, t] ty #[v, .slice A m c]).run P w = .ok v' w' ∧ w'.ownsRow base e 1 v' (n + m) (u8s (xs ++ ys)) ∧ Below base w w' := by
  subst hlen
  have hat : ∀ ad, (∀ j, j < ys.length → w.cell? (ad.add j) = some (.int .u8 ((ys[j]?.getD 0).toNat : Int))) → ∃ v' w', (Builtin.append_ #[t, t] ty #[v, .slice (some ad) ys.length c]).run P w = .ok v' w' ∧ w'.ownsRow base e 1 v' (n + ys.length) (u8s (xs ++ ys)) ∧ Below base w w' := fun ad hc => by
    obtain ⟨v', w', h1, h2, h3, _, _⟩ := run_append_own_at (P := P) w base t ty e i (.int .u8 0) 1 1 ht hi hz hsize hby rfl (by omega) v n (u8s xs) hown ad ys.length c (u8s ys) (by simp [u8s]) (fun j u hu => by
      have hj : j < ys.length := by
        have := (List.getElem?_eq_some_iff.1 hu).1
        simpa [u8s] using this
      rw [hc j hj, ← hu]
      simp [u8s, List.getElem?_eq_getElem hj]) (fun u hu => by
      simp only [u8s, List.mem_map] at hu
      obtain ⟨x, _, rfl⟩ := hu
      rfl) (by unfold maxLen; omega) (by omega) hbase
    exact ⟨v', w', h1, by rw [u8s_append]; exact h2, (Below.refl base w).grown h3 hbase (fun k hk => (hown.lt k hk).1)⟩
  rcases Nat.eq_zero_or_pos ys.length with h0 | h0
  · have hx : ys = [] := List.eq_nil_of_length_eq_zero h0
    subst hx
    rcases A with _ | ad
    · refine ⟨v, w, ?_, by simpa using hown, Below.refl _ _⟩
      rcases hown.2 with ⟨rfl, rfl⟩ | ⟨g, cap, cur, rfl, _, _, hnc, _⟩
      · simp [Builtin.append_, run_underlying ht, sizeOf, typeInfo, hi, Builtin.lenOf, Builtin.firstCells]
      · simp [Builtin.append_, run_underlying ht, sizeOf, typeInfo, hi, Builtin.lenOf, Builtin.firstCells, hnc, storeCells]
    · exact hat ad (fun j hj => by simp at hj)
  · obtain ⟨ad, rfl, _, hc⟩ := hy h0
    exact hat ad hc

/-- The walk at 'append(s, x...)', of which it is known what it comes to. -/
theorem wpList_append_run {P : Program} {w : World} {ops : Array Oper} {rest : List Oper} {o : Oper} {a : Act} {Q : Exit → Act → World → Prop} (hgd : o.guard = none) (s x : Operand) (t : TypeId)
    (ho : o.op = .call { callee := .builtin .append, args := #[s, x], argTypes := #[t, t] }) {v u v' : Value} {w' : World} (hs : a.eval s = v) (hx : a.eval x = u)
    (hrun : (Builtin.append_ #[t, t] o.type #[v, u]).run P w = .ok v' w') (h : wpList P ops Q rest (a.put o.dst v') w') : wpList P ops Q (o :: rest) a w :=
  wpList_plain hgd fun _ hK => by
    unfold Oper.wp execOp
    simp only [ho, resolve, invoke, builtin, Sem.run_bind, Sem.run_pure, Result.andThen_ok, List.map_toArray, List.map_cons, List.map_nil, hs, hx, hrun]
    exact hK _ _ h

end Go.Proofs.YtdaidhbmfocodaaGreat

/-
  Numbers and their bytes, the lowest first: plain arithmetic, no program. Conditions: those that each lemma states.
-/
namespace Go.Proofs.YtdaidhbmfocodaaGreat

/-- The first k bytes of n, the lowest first. -/
def le : Nat → Int → List UInt8
  | 0, _ => []
  | k + 1, n => UInt8.ofNat (n % 256).toNat :: le k (n / 256)
/-- The number of some bytes, the lowest first. -/
def num : List UInt8 → Int
  | [] => 0
  | x :: r => (x.toNat : Int) + 256 * num r

theorem le_length (k : Nat) : ∀ n : Int, (le k n).length = k := by
  induction k with
  | zero => intro n; rfl
  | succ k ih => intro n; simp [le, ih]
theorem byte_toNat (n : Int) : ((UInt8.ofNat (n % 256).toNat).toNat : Int) = n % 256 := by
  have h : (n % 256).toNat < 256 := by omega
  rw [UInt8.toNat_ofNat', Nat.mod_eq_of_lt (by simpa using h)]
  omega
theorem num_nonneg : ∀ xs : List UInt8, 0 ≤ num xs
  | [] => by simp [num]
  | x :: r => by have := num_nonneg r; simp only [num]; omega
theorem num_lt : ∀ xs : List UInt8, num xs < (256 : Int) ^ xs.length
  | [] => by simp [num]
  | x :: r => by
    have h := num_lt r
    have hx := x.toNat_lt
    have e : (256 : Int) ^ (r.length + 1) = 256 ^ r.length * 256 := Int.pow_succ ..
    simp only [num, List.length_cons, e]
    omega
theorem byte_of (x : UInt8) (m : Int) : UInt8.ofNat (((x.toNat : Int) + 256 * m) % 256).toNat = x := by
  have hx := x.toNat_lt
  have h : (((x.toNat : Int) + 256 * m) % 256).toNat = x.toNat := by omega
  rw [h]
  simp
theorem le_num : ∀ xs : List UInt8, le xs.length (num xs) = xs
  | [] => rfl
  | x :: r => by
    have hx := x.toNat_lt
    simp only [List.length_cons, le, num, byte_of]
    rw [show ((x.toNat : Int) + 256 * num r) / 256 = num r by omega, le_num r]
/-- The number of pairs that come from behind. -/
def val (pre : List (Nat × UInt8)) : Int := pre.foldl (fun n x => n * 256 + (x.2.toNat : Int)) 0
theorem val_snoc (pre : List (Nat × UInt8)) (x : Nat × UInt8) : val (pre ++ [x]) = val pre * 256 + x.2.toNat := by simp [val]
/-- What has come when k rounds are over, from behind. -/
def back (xs : List UInt8) (k : Nat) : List (Nat × UInt8) := (List.range k).map fun j => (xs.length - 1 - j, xs[xs.length - 1 - j]?.getD 0)
theorem back_succ (xs : List UInt8) (k : Nat) : back xs (k + 1) = back xs k ++ [(xs.length - 1 - k, xs[xs.length - 1 - k]?.getD 0)] := by simp [back, List.range_succ]
theorem back_length (xs : List UInt8) (k : Nat) : (back xs k).length = k := by simp [back]
theorem val_back (xs : List UInt8) : ∀ k, k ≤ xs.length → val (back xs k) = num (xs.drop (xs.length - k)) := by
  intro k
  induction k with
  | zero => intro _; simp [back, val, num]
  | succ k ih =>
    intro h
    have hd : xs.drop (xs.length - (k + 1)) = xs[xs.length - (k + 1)]'(by omega) :: xs.drop (xs.length - (k + 1) + 1) := List.drop_eq_getElem_cons (by omega)
    rw [back_succ, val_snoc, ih (by omega), hd, show xs.length - (k + 1) + 1 = xs.length - k by omega]
    have e : xs[xs.length - 1 - k]?.getD 0 = xs[xs.length - (k + 1)]'(by omega) := by
      have e' : xs.length - 1 - k = xs.length - (k + 1) := by omega
      rw [e', List.getElem?_eq_getElem (by omega)]
      rfl
    simp only [num, e]
    omega
theorem val_all (xs : List UInt8) : val (back xs xs.length) = num xs := by
  have := val_back xs xs.length (Nat.le_refl _)
  simpa using this
theorem val_bounds_from : ∀ (pre : List (Nat × UInt8)) (m : Int) (k : Nat), 0 ≤ m → m < (256 : Int) ^ k → 0 ≤ pre.foldl (fun n x => n * 256 + (x.2.toNat : Int)) m ∧ pre.foldl (fun n x => n * 256 + (x.2.toNat : Int)) m < (256 : Int) ^ (k + pre.length)
  | [], m, k, h0, h1 => ⟨h0, h1⟩
  | x :: r, m, k, h0, h1 => by
    have hx := x.2.toNat_lt
    have e : (256 : Int) ^ (k + 1) = 256 ^ k * 256 := Int.pow_succ ..
    have h := val_bounds_from r (m * 256 + (x.2.toNat : Int)) (k + 1) (by omega) (by omega)
    rw [List.length_cons, show k + (r.length + 1) = k + 1 + r.length by omega]
    exact h
theorem val_bounds (pre : List (Nat × UInt8)) : 0 ≤ val pre ∧ val pre < (256 : Int) ^ pre.length := by
  have := val_bounds_from pre 0 0 (by omega) (by simp)
  rwa [Nat.zero_add] at this
theorem val_small (pre : List (Nat × UInt8)) (h : pre.length < 4) : 0 ≤ val pre ∧ val pre < 16777216 := by
  obtain ⟨h0, h1⟩ := val_bounds pre
  refine ⟨h0, ?_⟩
  match hn : pre.length, h with
  | 0, _ => rw [hn] at h1; simp at h1; omega
  | 1, _ => rw [hn] at h1; simp at h1; omega
  | 2, _ => rw [hn] at h1; simp at h1; omega
  | 3, _ => rw [hn] at h1; simp at h1; omega
theorem or_low (a : Int) (x : UInt8) (h0 : 0 ≤ a) (h1 : a < 16777216) : bits .or .u32 (a * 256) (x.toNat : Int) = a * 256 + x.toNat := by
  have hx := x.toNat_lt
  obtain ⟨n, rfl⟩ := Int.eq_ofNat_of_zero_le h0
  have e : ((n : Int) * 256) = ((n * 256 : Nat) : Int) := by omega
  have hn : n * 256 ||| x.toNat = n * 256 + x.toNat := by
    rw [show n * 256 = 2 ^ 8 * n by omega]
    exact (Nat.two_pow_add_eq_or_of_lt (by omega) n).symm
  rw [e, u32_or_nat _ _ (by omega) (by omega), hn]
  omega
theorem le_snoc (k : Nat) : ∀ n : Int, le (k + 1) n = le k n ++ [UInt8.ofNat (n / 256 ^ k % 256).toNat] := by
  induction k with
  | zero => intro n; simp [le]
  | succ k ih =>
    intro n
    have e : (256 : Int) ^ (k + 1) = 256 * 256 ^ k := by rw [Int.pow_succ, Int.mul_comm]
    rw [le, ih (n / 256), e, ← Int.ediv_ediv_of_nonneg (by omega)]
    rfl
theorem div_pow_succ (n : Int) (k : Nat) : n / 256 ^ k / 256 = n / 256 ^ (k + 1) := by
  rw [Int.ediv_ediv_of_nonneg (Int.pow_nonneg (by omega)), Int.pow_succ]
theorem div_pow_nonneg (n : Int) (k : Nat) (h : 0 ≤ n) : 0 ≤ n / 256 ^ k := Int.ediv_nonneg h (Int.pow_nonneg (by omega))
theorem div_pow_le (n : Int) (k : Nat) (h : 0 ≤ n) : n / 256 ^ k ≤ n := Int.ediv_le_self _ h
end Go.Proofs.YtdaidhbmfocodaaGreat

/-
  Package code: the contracts of its functions, for this seat's translation. Conditions: those that each lemma states.
-/
namespace Go.Proofs.YtdaidhbmfocodaaGreat
open Go.RowKit

/-- The cells of a slice of four bytes, and of two. -/
theorem Byt.at_ {w : World} {B : Nat} {A : Option Addr} {xs : List UInt8} (h : Byt w B A xs) (hn : 0 < xs.length) : ∃ ad, A = some ad ∧ ad.block < B ∧ ∀ j x, xs[j]? = some x → w.cell? (ad.add j) = some (.int .u8 (x.toNat : Int)) := by
  obtain ⟨ad, e, hb, hc⟩ := h hn
  refine ⟨ad, e, hb, fun j x hj => ?_⟩
  have hjl := (List.getElem?_eq_some_iff.1 hj).1
  rw [hc j hjl, hj]
  rfl

end Go.Proofs.YtdaidhbmfocodaaGreat

/-
  A block that holds bytes, known whole: how it is made, copied into, turned at one place, read. Conditions: those that each lemma states.
-/
namespace Go.Proofs.YtdaidhbmfocodaaGreat
open Go.RowKit

theorem u8_info0 : (Tryz.prog.info? 5).map (fun i => (i.zero, i.size, i.bytes)) = some (some (.int .u8 0), 1, 1) := by kernel_rfl
/-- The cells of some bytes. -/
def rowA (xs : List UInt8) : Array Value := (u8s xs).toArray
/-- Block g holds just these bytes. -/
def Row (w : World) (g : Nat) (xs : List UInt8) : Prop := w.heap[g]? = some (.cells (u8s xs).toArray 5 (0, 0))
def zeros (n : Nat) : List UInt8 := List.replicate n 0
theorem u8s_length (xs : List UInt8) : (u8s xs).length = xs.length := by simp [u8s]
theorem u8s_one (xs : List UInt8) : ∀ v ∈ u8s xs, v.oneCell' = true := by
  intro v hv
  simp only [u8s, List.mem_map] at hv
  obtain ⟨x, _, rfl⟩ := hv
  rfl
theorem u8s_get (xs : List UInt8) (j : Nat) (h : j < xs.length) : (u8s xs)[j]? = some (.int .u8 ((xs[j]?.getD 0).toNat : Int)) := by
  simp [u8s, h]
theorem Row.new (w : World) (xs : List UInt8) : Row (w.alloc (.cells (rowA xs) 5)) w.heap.size xs := heap_alloc_new w _
section
variable {w w' : World} {g : Nat} {xs : List UInt8}
theorem Row.lt (h : Row w g xs) : g < w.heap.size := (Array.getElem?_eq_some_iff.1 h).1
theorem Row.keep (h : Row w g xs) (e : w'.heap[g]? = w.heap[g]?) : Row w' g xs := e.trans h
theorem Row.below {B : Nat} (h : Row w g xs) (hb : Below B w w') (hg : g < B) : Row w' g xs := h.keep (hb.block g hg)
theorem Row.after (h : Row w g xs) (hb : Below w.heap.size w w') : Row w' g xs := h.below hb h.lt
theorem Row.cell (h : Row w g xs) {j : Nat} (hj : j < xs.length) : w.cell? ⟨g, j, none⟩ = some (.int .u8 ((xs[j]?.getD 0).toNat : Int)) := by
  rw [cell_of_row _ _ _ _ _ _ h]
  simpa using u8s_get xs j hj
theorem Row.free (h : Row w g xs) (j : Nat) : w.frozen? ⟨g, j, none⟩ = false := frozen_of_row _ _ _ _ _ h
theorem add_off (g i j : Nat) : (⟨g, i, none⟩ : Addr).add j = ⟨g, i + j, none⟩ := by unfold Addr.add; split <;> simp_all
theorem Row.byt (h : Row w g xs) (k n : Nat) (hn : k + n ≤ xs.length) : Byt w w.heap.size (some ⟨g, k, none⟩) ((xs.drop k).take n) := fun hl =>
  ⟨_, rfl, h.lt, fun j hj => by
    have hj' : j < n := by simp at hj; omega
    rw [add_off, h.cell (by omega)]
    simp [hj']⟩
theorem Row.all (h : Row w g xs) : Byt w w.heap.size (some ⟨g, 0, none⟩) xs := by simpa using h.byt 0 xs.length (by omega)
theorem Row.tail (h : Row w g xs) (k : Nat) (hk : k ≤ xs.length) : Byt w w.heap.size (some ⟨g, k, none⟩) (xs.drop k) := by
  have := h.byt k (xs.length - k) (by omega)
  rwa [List.take_of_length_le (by simp)] at this
theorem Row.set (h : Row w g xs) (j : Nat) (x : UInt8) : Row (w.setCell ⟨g, j, none⟩ (.int .u8 (x.toNat : Int))) g (xs.set j x) := by
  have := heap_setCell_same w g j _ _ (.int .u8 (x.toNat : Int)) h
  show _ = _
  rw [this]
  congr 2
  simp [u8s, List.map_set]
end

end Go.Proofs.YtdaidhbmfocodaaGreat

/-
  slices.Clone at bytes. Conditions: those that each lemma states.
-/
namespace Go.Proofs.YtdaidhbmfocodaaGreat
open Go.RowKit

set_option maxHeartbeats 1000000 in
set_option maxRecDepth 100000 in
/-- Of a slice that is not nil. -/
theorem clone_some (ad : Addr) (len cap : Nat) (xs : List UInt8) (hlen : Hid (xs.length = len)) (hbig : len ≤ 140737488355328) (w : World) (hx : Byt w w.heap.size (some ad) xs) :
    Calls Tryz.prog 44 #[.slice (some ad) len cap] w fun e w' => ∃ v, e = .returned v ∧ w'.ownsRow w.heap.size 5 1 v len (u8s xs) ∧ v ≠ .slice none 0 0 ∧ Below w.heap.size w w' := by
  obtain ⟨i0, hi, hz0, hz1, hz2⟩ := info_parts u8_info0
  have q22 : ∀ (w : World) (a : Option Addr) (n c n' c' : Nat), (binOp .eql 27 (.slice a n c) (.slice none n' c')).run Tryz.prog w = .ok (.bool a.isNone) w := fun w a n c n' c' => Lib.run_eql_slice_nil w _ _ a n c n' c' Tryz.underlying27
  go_enter Tryz.func44, Tryz.ntmps44
  go_wp2_with (at_builtin; refine wpList_append_own _ rfl _ _ 27 rfl w.heap.size 5 i0 (.int .u8 0) 1 1 Tryz.underlying27 hi hz0 hz1 hz2 rfl (by decide) _ _ _ rfl (World.ownsRow_made w #[] 0 (Nat.le_refl _) (Nat.zero_le _) rfl) ad len cap (u8s xs) rfl ?qc1 ?qc2 ?qc3 ?qc4 ?qc5 ?qc6 ?_)
  case qc1 => rw [u8s_length, hlen.out, Nat.mul_one]
  case qc2 =>
    intro j u hj
    have hjn : j < xs.length := by
      have := (List.getElem?_eq_some_iff.1 hj).1
      simpa [u8s] using this
    obtain ⟨ad', e, hb, hc⟩ := hx (by omega)
    cases e
    refine Lib.cell?_alloc_some _ ?_
    rw [hc j hjn, ← u8s_get xs j hjn, hj]
  case qc3 => exact u8s_one xs
  case qc4 => unfold maxLen; omega
  case qc5 => omega
  case qc6 => simp
  intro v' w1 hown hgrow hnil
  go_wp2
  go_ret
  refine ⟨v', rfl, by simpa using hown, hnil, ?_⟩
  exact ((Below.refl _ w).alloc (Nat.le_refl _) _).grown hgrow (by simp) (by intro k hk; simp [Value.ownBlock] at hk; omega)

set_option maxHeartbeats 1000000 in
/-- Of nil. -/
theorem clone_nil (n c : Nat) (w : World) :
    Calls Tryz.prog 44 #[.slice none n c] w fun e w' => e = .returned (.slice none 0 0) ∧ w = w' := by
  have q22 : ∀ (w : World) (a : Option Addr) (n c n' c' : Nat), (binOp .eql 27 (.slice a n c) (.slice none n' c')).run Tryz.prog w = .ok (.bool a.isNone) w := fun w a n c n' c' => Lib.run_eql_slice_nil w _ _ a n c n' c' Tryz.underlying27
  go_enter Tryz.func44, Tryz.ntmps44
  go_wp2
  go_ret
  exact ⟨rfl, rfl⟩
theorem clone_any (A : Option Addr) (len cap : Nat) (xs : List UInt8) (hlen : Hid (xs.length = len)) (hbig : len ≤ 140737488355328) (w : World) (hx : Byt w w.heap.size A xs) :
    Calls Tryz.prog 44 #[.slice A len cap] w fun e w' => ∃ v, e = .returned v ∧ w'.ownsRow w.heap.size 5 1 v len (u8s xs) ∧ Below w.heap.size w w' := by
  rcases A with _ | ad
  · have h0 : xs = [] := by
      rcases Nat.eq_zero_or_pos xs.length with h | h
      · exact List.eq_nil_of_length_eq_zero h
      · obtain ⟨_, e, _⟩ := hx h
        cases e
    subst h0
    obtain rfl := hlen.out
    refine (clone_nil _ cap w).mono ?_
    rintro e w' ⟨rfl, rfl⟩
    exact ⟨_, rfl, World.ownsRow_nil _ _ _ _, Below.refl _ _⟩
  · refine (clone_some ad len cap xs hlen hbig w hx).mono ?_
    rintro e w' ⟨v, rfl, h1, _, h2⟩
    exact ⟨v, rfl, h1, h2⟩
end Go.Proofs.YtdaidhbmfocodaaGreat

/-
  How lists of cells read as data: numbers, bytes, slices of whatever, pairs; what stays where cells stay; arguments opened so. No program, no condition but those that each lemma states.
-/
namespace Go.Proofs.YtdaidhbmfocodaaGreat
open Go.ChangeShapes Go.WideShapes Go.RowKit

/-- How cells read as data, where each cell that is met lies at an address of 'ok'. -/
abbrev Rel (α : Type) := (Addr → Prop) → World → List Value → α → Prop
def rK (k : IntKind) : Rel Int := fun _ _ cs n => cs = [.int k n] ∧ k.min ≤ n ∧ n ≤ k.max
def rU8 : Rel UInt8 := fun _ _ cs x => cs = [.int .u8 (x.toNat : Int)]
def rSl {α : Type} (n : Nat) (R : Rel α) : Rel (List α) := fun ok w cs xs => ∃ A cap, cs = [.slice A xs.length cap] ∧ xs.length ≤ cap ∧ cap ≤ 9223372036854775807 ∧
  ∀ i x, xs[i]? = some x → ∃ ad vs, A = some ad ∧ vs.length = n ∧ (∀ j v, vs[j]? = some v → ok (ad.add (i * n + j)) ∧ w.cell? (ad.add (i * n + j)) = some v) ∧ R ok w vs x
def rPair {α β : Type} (R : Rel α) (S : Rel β) : Rel (α × β) := fun ok w cs x => ∃ c d, cs = c ++ d ∧ R ok w c x.1 ∧ S ok w d x.2

/-- Cells that lie there. -/
def Old (w : World) : Addr → Prop := fun p => p.block < w.heap.size
/-- Cells of the call's own, that may be written. -/
def New (lo : Nat) (w : World) : Addr → Prop := fun p => lo ≤ p.block ∧ p.block < w.heap.size ∧ w.frozen? p = false
theorem New.old {lo : Nat} {w : World} {p : Addr} (h : New lo w p) : Old w p := h.2.1

def Stab {α : Type} (R : Rel α) : Prop := ∀ (ok ok' : Addr → Prop) (w w' : World) (cs : List Value) (x : α), (∀ p v, ok p → w.cell? p = some v → ok' p ∧ w'.cell? p = some v) → R ok w cs x → R ok' w' cs x
theorem stab_k (k : IntKind) : Stab (rK k) := fun _ _ _ _ _ _ _ h => h
theorem stab_u8 : Stab rU8 := fun _ _ _ _ _ _ _ h => h
theorem stab_sl {α : Type} {n : Nat} {R : Rel α} (h : Stab R) : Stab (rSl n R) := fun ok ok' w w' cs xs hk hr => by
  obtain ⟨A, cap, h1, h2, h3, h4⟩ := hr
  refine ⟨A, cap, h1, h2, h3, fun i x hi => ?_⟩
  obtain ⟨ad, vs, e1, e2, e3, e4⟩ := h4 i x hi
  exact ⟨ad, vs, e1, e2, fun j v hj => hk _ _ (e3 j v hj).1 (e3 j v hj).2, h _ _ _ _ _ _ hk e4⟩
theorem stab_pair {α β : Type} {R : Rel α} {S : Rel β} (h : Stab R) (h' : Stab S) : Stab (rPair R S) := fun ok ok' w w' cs xs hk hr => by
  obtain ⟨c, d, h1, h2, h3⟩ := hr
  exact ⟨c, d, h1, h _ _ _ _ _ _ hk h2, h' _ _ _ _ _ _ hk h3⟩
section
variable {α : Type} {R : Rel α} (hR : Stab R) {w w' : World} {cs : List Value} {x : α}
include hR
theorem Stab.old (h : R (Old w) w cs x) (hb : Below w.heap.size w w') : R (Old w') w' cs x :=
  hR _ _ _ _ _ _ (fun _ _ hp hc => ⟨Nat.lt_of_lt_of_le hp hb.size, (hb.cell hp).trans hc⟩) h
theorem Stab.drop {lo : Nat} (h : R (New lo w) w cs x) : R (Old w) w cs x :=
  hR _ _ _ _ _ _ (fun _ _ hp hc => ⟨hp.2.1, hc⟩) h
theorem Stab.new {lo lo' : Nat} (h : R (New lo w) w cs x) (hl : lo' ≤ lo) (hb : Below w.heap.size w w') : R (New lo' w') w' cs x :=
  hR _ _ _ _ _ _ (fun _ _ hp hc => ⟨⟨Nat.le_trans hl hp.1, Nat.lt_of_lt_of_le hp.2.1 hb.size, (hb.frozen hp.2.1).trans hp.2.2⟩, (hb.cell hp.2.1).trans hc⟩) h
end

/-- The cell behind, as the walk spells it. -/
theorem add_next (a : Addr) (i : Nat) : a.add (i + 1) = ⟨(a.add i).block, (a.add i).off + 1, none⟩ := by
  unfold Addr.add
  by_cases hi : i = 0 <;> simp [hi, Nat.add_assoc]

/-! ### Bytes -/
def rBy : Rel (List UInt8) := rSl 1 rU8
theorem stab_by : Stab rBy := stab_sl stab_u8
theorem rBy_open {ok : Addr → Prop} {w : World} {v : Value} {xs : List UInt8} (h : rBy ok w [v] xs) : ∃ A cap, v = .slice A xs.length cap ∧ xs.length ≤ cap ∧ cap ≤ 9223372036854775807 ∧
    ∀ i, i < xs.length → ∃ ad, A = some ad ∧ ok (ad.add i) ∧ w.cell? (ad.add i) = some (.int .u8 ((xs[i]?.getD 0).toNat : Int)) := by
  obtain ⟨A, cap, h1, h2, h3, h4⟩ := h
  refine ⟨A, cap, by simpa using h1, h2, h3, fun i hi => ?_⟩
  obtain ⟨ad, vs, e1, _, e3, e4⟩ := h4 i _ (List.getElem?_eq_getElem hi)
  unfold rU8 at e4
  subst e4
  have := e3 0 _ rfl
  rw [Nat.mul_one, Nat.add_zero] at this
  exact ⟨ad, e1, this.1, by rw [this.2, List.getElem?_eq_getElem hi]; rfl⟩
theorem rBy_byt {ok : Addr → Prop} {w : World} {B : Nat} {v : Value} {xs : List UInt8} (hok : ∀ p, ok p → p.block < B) (h : rBy ok w [v] xs) : ∃ A cap, v = .slice A xs.length cap ∧ xs.length ≤ cap ∧ cap ≤ 9223372036854775807 ∧ Byt w B A xs := by
  obtain ⟨A, cap, h1, h2, h3, h4⟩ := rBy_open h
  refine ⟨A, cap, h1, h2, h3, fun hp => ?_⟩
  obtain ⟨ad, rfl, hb, _⟩ := h4 0 hp
  refine ⟨ad, rfl, by have := hok _ hb; rwa [add_block] at this, fun j hj => ?_⟩
  obtain ⟨ad', e, _, hc⟩ := h4 j hj
  cases e
  exact hc
theorem own_by {w : World} {base n : Nat} {t : TypeId} {v : Value} {xs : List UInt8} (h : w.ownsRow base t 1 v n (u8s xs)) : rBy (New base w) w [v] xs := by
  have hl : xs.length = n := by simpa [u8s] using h.1
  subst hl
  rcases h.2 with ⟨rfl, h0⟩ | ⟨g, cap, cur, rfl, hbg, hg, hnc, hcm, _, _⟩
  · have : xs = [] := List.eq_nil_of_length_eq_zero h0
    subst this
    exact ⟨none, 0, rfl, by simp, by omega, fun i x hi => by simp at hi⟩
  · refine ⟨_, cap, rfl, hnc, by unfold maxLen at hcm; exact hcm, fun i x hi => ?_⟩
    refine ⟨_, [.int .u8 (x.toNat : Int)], rfl, rfl, fun j v hj => ?_, rfl⟩
    have hj0 : j = 0 := by
      have := (List.getElem?_eq_some_iff.1 hj).1
      simp at this
      omega
    subst hj0
    cases hj
    have hlt : g < w.heap.size := (Array.getElem?_eq_some_iff.1 hg).1
    rw [Nat.mul_one, Nat.add_zero]
    refine ⟨⟨by rw [add_block]; exact hbg, by rw [add_block]; exact hlt, ?_⟩, h.cells (g := g) rfl i _ (by simp [u8s, hi])⟩
    simp only [World.frozen?, add_block, hg]
    simp

/-- A store ahead of what is new. -/
theorem Stab.put {α : Type} {R : Rel α} (hR : Stab R) {w : World} {cs : List Value} {x : α} {lo : Nat} (h : R (New lo w) w cs x) {p : Addr} (hp : p.block < lo) (u : Value) : R (New lo (w.setCell p u)) (w.setCell p u) cs x :=
  hR _ _ _ _ _ _ (fun q v hq hc => by
    have hne : q.block ≠ p.block := by have := hq.1; omega
    have hb := Below.heap_setCell w p u q.block hne
    exact ⟨⟨hq.1, by simpa using hq.2.1, (World.frozen?_of_block hb).trans hq.2.2⟩, (World.cell?_of_block hb).trans hc⟩) h
/-- One block turned, ahead of what is new. -/
theorem Stab.grown {α : Type} {R : Rel α} (hR : Stab R) {w w' : World} {cs : List Value} {x : α} {lo : Nat} {row : Option Nat} (h : R (New lo w) w cs x) (hg : w.grownBy w' row) (hr : ∀ q, row = some q → q < lo) : R (New lo w') w' cs x :=
  hR _ _ _ _ _ _ (fun q v hq hc => by
    have hb := hg.block q.block hq.2.1 (fun e => by have := hr _ e.symm; have := hq.1; omega)
    exact ⟨⟨hq.1, Nat.lt_of_lt_of_le hq.2.1 hg.size, (World.frozen?_of_block hb).trans hq.2.2⟩, (World.cell?_of_block hb).trans hc⟩) h
theorem Stab.mono {α : Type} {R : Rel α} (hR : Stab R) {w : World} {cs : List Value} {x : α} {lo lo' : Nat} (h : R (New lo w) w cs x) (hl : lo' ≤ lo) : R (New lo' w) w cs x :=
  hR _ _ _ _ _ _ (fun _ _ hq hc => ⟨⟨Nat.le_trans hl hq.1, hq.2⟩, hc⟩) h
/-- A row of the call's own reads so, if its cells do. -/
theorem own_sl {α : Type} {R : Rel α} {w : World} {base size n : Nat} {t : TypeId} {v : Value} {cs : List Value} {xs : List α} (h : w.ownsRow base t size v n cs) (hl : xs.length = n)
    (hx : ∀ i x, xs[i]? = some x → ∃ vs, vs.length = size ∧ (∀ j u, vs[j]? = some u → cs[i * size + j]? = some u) ∧ R (New base w) w vs x) : rSl size R (New base w) w [v] xs := by
  subst hl
  rcases h.2 with ⟨rfl, h0⟩ | ⟨g, cap, cur, rfl, hbg, hg, hnc, hcm, _, _⟩
  · have : xs = [] := List.eq_nil_of_length_eq_zero h0
    subst this
    exact ⟨none, 0, rfl, by simp, by omega, fun i x hi => by simp at hi⟩
  · refine ⟨_, cap, rfl, hnc, by unfold maxLen at hcm; exact hcm, fun i x hi => ?_⟩
    obtain ⟨vs, h1, h2, h3⟩ := hx i x hi
    have hlt : g < w.heap.size := (Array.getElem?_eq_some_iff.1 hg).1
    refine ⟨_, vs, rfl, h1, fun j u hj => ⟨⟨by rw [add_block]; exact hbg, by rw [add_block]; exact hlt, ?_⟩, h.cells (g := g) rfl _ u (h2 j u hj)⟩, h3⟩
    simp only [World.frozen?, add_block, hg]
    simp

/-! ### A list out of its elements -/
theorem list_of {α : Type} {p : Nat → α → Prop} : ∀ {n : Nat}, (∀ i, i < n → ∃ x, p i x) → ∃ xs : List α, xs.length = n ∧ ∀ i x, xs[i]? = some x → p i x
  | 0, _ => ⟨[], rfl, fun i x h => by simp at h⟩
  | n + 1, h => by
    obtain ⟨xs, hl, hx⟩ := list_of (n := n) (p := p) (fun i hi => h i (by omega))
    obtain ⟨y, hy⟩ := h n (by omega)
    refine ⟨xs ++ [y], by simp [hl], fun i x hi => ?_⟩
    rcases Nat.lt_or_ge i n with h1 | h1
    · rw [List.getElem?_append_left (by omega)] at hi
      exact hx i x hi
    · rw [List.getElem?_append_right (by omega)] at hi
      have h2 : i = n := by
        have := (List.getElem?_eq_some_iff.1 hi).1
        simp at this
        omega
      subst h2
      rw [hl] at hi
      simp at hi
      subst hi
      exact hy

/-! ### Arguments -/
def Opens {α : Type} (P : Program) (t : TypeId) (R : Rel α) : Prop := ∀ {H : Type} {enc : TypeId × Value → H} {w : World} {spare : Nat → Bool} {held : Bool} {fuel : Nat} {cs : List Value} {x : DataW H × List MemPlace},
  DataW.trod enc P w 0 spare held fuel t cs = some x → ∃ a, R (Old w) w cs a
theorem opens_k {P : Program} {t : TypeId} {k : IntKind} (ht : P.underlying t = some (.int k)) : Opens P t (rK k) := fun h => by
  obtain ⟨n, rfl, _, hw⟩ := DataW.trod_int ht h
  exact ⟨n, rfl, by simpa [Lit.wf] using hw⟩
theorem opens_u8 {P : Program} {t : TypeId} (ht : P.underlying t = some (.int .u8)) : Opens P t rU8 := fun h => by
  obtain ⟨n, rfl, _, hw⟩ := DataW.trod_int ht h
  have hw' : 0 ≤ n ∧ n ≤ 255 := by simpa [Lit.wf, IntKind.min, IntKind.max, IntKind.signed, IntKind.bits] using hw
  refine ⟨UInt8.ofNat n.toNat, ?_⟩
  unfold rU8
  have : ((UInt8.ofNat n.toNat).toNat : Int) = n := by
    rw [UInt8.toNat_ofNat']
    omega
  rw [this]
theorem opens_sl {α : Type} {P : Program} {t e : TypeId} {n : Nat} {R : Rel α} (ht : P.underlying t = some (.slice e)) (hc : P.cellsOf e = n) (hE : Opens P e R) : Opens P t (rSl n R) := fun {H enc w spare held fuel cs x} h => by
  rcases Go.Deep.open_slice ht h with ⟨rfl, _⟩ | ⟨a, len, cap, m, n', D, Pl, rfl, _, hlc, hcm, hm, _, hi⟩
  · exact ⟨[], none, 0, rfl, by simp, by omega, fun i x hi => by simp at hi⟩
  · have hlm : len ≤ m := by rw [hm]; split <;> omega
    obtain ⟨xs, hl, hx⟩ := list_of (n := len) (p := fun i x => ∃ vs : List Value, vs.length = n ∧ (∀ j v, vs[j]? = some v → Old w (a.add (i * n + j)) ∧ w.cell? (a.add (i * n + j)) = some v) ∧ R (Old w) w vs x) (fun i hil => by
      obtain ⟨cs', hcs, htr⟩ := hi i (by omega)
      obtain ⟨y, hy⟩ := hE htr
      rw [hc] at hcs
      obtain ⟨_, hcl, hat⟩ := World.cells?_some hcs
      refine ⟨y, cs', hcl, fun j v hj => ?_, hy⟩
      have hjl : j < n := by rw [← hcl]; exact (List.getElem?_eq_some_iff.1 hj).1
      have hce := hat j hjl
      rw [Go.Deep.add_add, hj] at hce
      exact ⟨World.block_lt_of_cell? w _ hce, hce⟩)
    refine ⟨xs, some a, cap, by rw [hl], by omega, by unfold maxLen at hcm; exact hcm, fun i x hix => ?_⟩
    obtain ⟨vs, h1, h2, h3⟩ := hx i x hix
    exact ⟨a, vs, rfl, h1, h2, h3⟩
theorem opens_pair {α β : Type} {P : Program} {t : TypeId} {f0 f1 : Field} {R : Rel α} {S : Rel β} (ht : P.underlying t = some (.struct #[f0, f1])) (h0 : f0.offset = 0) (h1 : f1.offset = P.cellsOf f0.type) (hC : P.cellsOf t = P.cellsOf f0.type + P.cellsOf f1.type)
    (hR : Opens P f0.type R) (hS : Opens P f1.type S) : Opens P t (rPair R S) := fun {H enc w spare held fuel cs x} h => by
  obtain ⟨ys, n, _, _, hl, hys, hf⟩ := DataW.trod_struct ht h
  have e0 := hf 0 f0 rfl
  have e1 := hf 1 f1 rfl
  rw [h0, List.drop_zero, List.getElem?_eq_getElem (by rw [hys]; simp)] at e0
  rw [h1, List.getElem?_eq_getElem (by rw [hys]; simp), List.take_of_length_le (by simp; omega)] at e1
  obtain ⟨a, ha⟩ := hR e0
  obtain ⟨b, hb⟩ := hS e1
  exact ⟨(a, b), _, _, (List.take_append_drop _ _).symm, ha, hb⟩
/-- An argument that is a struct, a slice: its cells read so. -/
theorem open_rel {α : Type} {H : Type} {enc : TypeId × Value → H} {P : Program} {w : World} {spare : Nat → Bool} {held : Bool} {t : TypeId} {v : Value} {d : DataW H} {ps : List MemPlace} {R : Rel α} (hR : Opens P t R) (hd : DataW.Trod enc P w 0 spare held t v d ps) :
    ∃ a, R (Old w) w v.cells.toList a := by
  obtain ⟨fuel, hf⟩ := hd
  exact hR hf
end Go.Proofs.YtdaidhbmfocodaaGreat

/-
  Disks (api.Disk): how they read; which may be. Conditions: those that each lemma states.
-/
namespace Go.Proofs.YtdaidhbmfocodaaGreat
open Go.ChangeShapes Go.WideShapes Go.RowKit

abbrev Wt := Int × List UInt8
abbrev Dk := List (List UInt8) × List Wt
def rWt : Rel Wt := rPair (rK .i64) rBy
def rDisk : Rel Dk := rPair (rSl 1 rBy) (rSl 2 rWt)
theorem stab_wt : Stab rWt := stab_pair (stab_k _) stab_by
theorem rWt_open {ok : Addr → Prop} {w : World} {cs : List Value} {x : Wt} (h : rWt ok w cs x) : ∃ v, cs = [.int .i64 x.1, v] ∧ -9223372036854775808 ≤ x.1 ∧ x.1 ≤ 9223372036854775807 ∧ rBy ok w [v] x.2 := by
  obtain ⟨c, d, rfl, ⟨rfl, h1, h2⟩, h3⟩ := h
  obtain ⟨A, cap, rfl, h4⟩ := h3
  exact ⟨_, rfl, by simpa [IntKind.min, IntKind.signed, IntKind.bits] using h1, by simpa [IntKind.max, IntKind.signed, IntKind.bits] using h2, A, cap, rfl, h4⟩
theorem rWt_mk {ok : Addr → Prop} {w : World} {v : Value} {n : Int} {xs : List UInt8} (h1 : -9223372036854775808 ≤ n) (h2 : n ≤ 9223372036854775807) (h : rBy ok w [v] xs) : rWt ok w [.int .i64 n, v] (n, xs) :=
  ⟨[.int .i64 n], [v], rfl, ⟨rfl, by simpa [IntKind.min, IntKind.signed, IntKind.bits] using h1, by simpa [IntKind.max, IntKind.signed, IntKind.bits] using h2⟩, h⟩

/-- Blocks: a slice of slices of bytes, opened. -/
theorem rows_open {ok : Addr → Prop} {w : World} {cs : List Value} {xss : List (List UInt8)} (h : rSl 1 rBy ok w cs xss) : ∃ A cap, cs = [.slice A xss.length cap] ∧ xss.length ≤ cap ∧ cap ≤ 9223372036854775807 ∧
    ∀ i x, xss[i]? = some x → ∃ ad v, A = some ad ∧ ok (ad.add i) ∧ w.cell? (ad.add i) = some v ∧ rBy ok w [v] x := by
  obtain ⟨A, cap, h1, h2, h3, h4⟩ := h
  refine ⟨A, cap, h1, h2, h3, fun i x hi => ?_⟩
  obtain ⟨ad, vs, e1, e2, e3, e4⟩ := h4 i x hi
  match vs, e2 with
  | [v], _ =>
    have := e3 0 v rfl
    rw [Nat.mul_one, Nat.add_zero] at this
    exact ⟨ad, v, e1, this.1, this.2, e4⟩
/-- Writes: a slice of pairs, opened. -/
theorem wts_open {ok : Addr → Prop} {w : World} {cs : List Value} {ws : List Wt} (h : rSl 2 rWt ok w cs ws) : ∃ A cap, cs = [.slice A ws.length cap] ∧ ws.length ≤ cap ∧ cap ≤ 9223372036854775807 ∧
    ∀ i x, ws[i]? = some x → ∃ ad v, A = some ad ∧ ok (ad.add (i * 2)) ∧ ok (ad.add (i * 2 + 1)) ∧ w.cell? (ad.add (i * 2)) = some (.int .i64 x.1) ∧ w.cell? (ad.add (i * 2 + 1)) = some v ∧ rBy ok w [v] x.2 ∧ -9223372036854775808 ≤ x.1 ∧ x.1 ≤ 9223372036854775807 := by
  obtain ⟨A, cap, h1, h2, h3, h4⟩ := h
  refine ⟨A, cap, h1, h2, h3, fun i x hi => ?_⟩
  obtain ⟨ad, vs, e1, e2, e3, e4⟩ := h4 i x hi
  obtain ⟨v, rfl, b1, b2, hv⟩ := rWt_open e4
  have a0 := e3 0 _ rfl
  have a1 := e3 1 _ rfl
  rw [Nat.add_zero] at a0
  exact ⟨ad, v, e1, a0.1, a1.1, a0.2, a1.2, hv, b1, b2⟩

/-- A value that reads as a disk. -/
def Dsk (ok : Addr → Prop) (w : World) (v : Value) (d : Dk) : Prop := ∃ a b, v = .agg #[a, b] ∧ rSl 1 rBy ok w [a] d.1 ∧ rSl 2 rWt ok w [b] d.2
theorem Dsk.map {ok ok' : Addr → Prop} {w w' : World} {v : Value} {d : Dk} (hk : ∀ p v, ok p → w.cell? p = some v → ok' p ∧ w'.cell? p = some v) (h : Dsk ok w v d) : Dsk ok' w' v d := by
  obtain ⟨a, b, e, h1, h2⟩ := h
  exact ⟨a, b, e, stab_sl stab_by _ _ _ _ _ _ hk h1, stab_sl stab_wt _ _ _ _ _ _ hk h2⟩
theorem Dsk.below {w w' : World} {v : Value} {d : Dk} (h : Dsk (Old w) w v d) (hb : Below w.heap.size w w') : Dsk (Old w') w' v d :=
  h.map fun _ _ hp hc => ⟨Nat.lt_of_lt_of_le hp hb.size, (hb.cell hp).trans hc⟩
theorem Dsk.drop {lo : Nat} {w : World} {v : Value} {d : Dk} (h : Dsk (New lo w) w v d) : Dsk (Old w) w v d :=
  h.map fun _ _ hp hc => ⟨hp.2.1, hc⟩
theorem Dsk.new {lo lo' : Nat} {w w' : World} {v : Value} {d : Dk} (h : Dsk (New lo w) w v d) (hl : lo' ≤ lo) (hb : Below w.heap.size w w') : Dsk (New lo' w') w' v d :=
  h.map fun _ _ hp hc => ⟨⟨Nat.le_trans hl hp.1, Nat.lt_of_lt_of_le hp.2.1 hb.size, (hb.frozen hp.2.1).trans hp.2.2⟩, (hb.cell hp.2.1).trans hc⟩
theorem Dsk.parts {ok : Addr → Prop} {w : World} {a b : Value} {d : Dk} (h : Dsk ok w (.agg #[a, b]) d) : rSl 1 rBy ok w [a] d.1 ∧ rSl 2 rWt ok w [b] d.2 := by
  obtain ⟨x, y, e, h1, h2⟩ := h
  cases e
  exact ⟨h1, h2⟩
/-- A disk, opened. -/
theorem Dsk.open {ok : Addr → Prop} {w : World} {v : Value} {d : Dk} (h : Dsk ok w v d) : ∃ A c B e, v = .agg #[.slice A d.1.length c, .slice B d.2.length e] ∧ d.1.length ≤ c ∧ c ≤ 9223372036854775807 ∧ d.2.length ≤ e ∧ e ≤ 9223372036854775807 ∧
    (∀ i x, d.1[i]? = some x → ∃ ad v, A = some ad ∧ ok (ad.add i) ∧ w.cell? (ad.add i) = some v ∧ rBy ok w [v] x) ∧
    (∀ i x, d.2[i]? = some x → ∃ ad v, B = some ad ∧ ok (ad.add (i * 2)) ∧ ok (ad.add (i * 2 + 1)) ∧ w.cell? (ad.add (i * 2)) = some (.int .i64 x.1) ∧ w.cell? (ad.add (i * 2 + 1)) = some v ∧ rBy ok w [v] x.2 ∧ -9223372036854775808 ≤ x.1 ∧ x.1 ≤ 9223372036854775807) := by
  obtain ⟨a, b, rfl, h1, h2⟩ := h
  obtain ⟨A, c, e1, l1, m1, k1⟩ := rows_open h1
  obtain ⟨B, e, e2, l2, m2, k2⟩ := wts_open h2
  cases e1
  cases e2
  exact ⟨A, c, B, e, rfl, l1, m1, l2, m2, k1, k2⟩

/-! ### Which disks may be -/
def wtB (x : Wt) : Bool := decide (0 ≤ x.1) && decide (x.1 < 256) && decide (x.2.length = 128)
def byB (x : List UInt8) : Bool := decide (x.length = 128)
def mayB (d : Dk) : Bool := decide (d.1.length = 256) && decide (d.2.length ≤ 4096) && d.1.all byB && d.2.all wtB
def chk (d : Dk) : Int := if mayB d then 0 else 8
theorem chk_bad {d : Dk} (h : mayB d = false) : chk d = 8 := by simp [chk, h]
theorem chk_ok {d : Dk} (h : mayB d = true) : chk d = 0 := by simp [chk, h]
theorem all_at {α : Type} {p : α → Bool} {xs : List α} (h : xs.all p = true) {k : Nat} {x : α} (hk : xs[k]? = some x) : p x = true := List.all_eq_true.1 h x (List.mem_of_getElem? hk)
theorem all_not {α : Type} {p : α → Bool} {xs : List α} {k : Nat} {x : α} (hk : xs[k]? = some x) (h : p x = false) : xs.all p = false := by
  cases ha : xs.all p with
  | false => rfl
  | true => rw [all_at ha hk] at h; cases h
theorem all_take {α : Type} {p : α → Bool} {xs : List α} {k : Nat} {x : α} (h : (xs.take k).all p = true) (hk : xs[k]? = some x) (hx : p x = true) : (xs.take (k + 1)).all p = true := by
  rw [List.take_add_one, hk]
  simp [h, hx]
theorem may_len1 {d : Dk} (h : d.1.length ≠ 256) : mayB d = false := by simp [mayB, h]
theorem may_len2 {d : Dk} (h : 4096 < d.2.length) : mayB d = false := by
  have : decide (d.2.length ≤ 4096) = false := by simpa using h
  simp [mayB, this]
theorem may_block {d : Dk} {k : Nat} {x : List UInt8} (hk : d.1[k]? = some x) (h : x.length ≠ 128) : mayB d = false := by
  have : d.1.all byB = false := all_not hk (by simp [byB, h])
  rw [mayB, this]
  simp
theorem wtB_no {x : Wt} (h : ¬ (0 ≤ x.1 ∧ x.1 < 256 ∧ x.2.length = 128)) : wtB x = false := by
  cases hb : wtB x with
  | false => rfl
  | true =>
    simp only [wtB, Bool.and_eq_true, decide_eq_true_eq] at hb
    exact absurd ⟨hb.1.1, hb.1.2, hb.2⟩ h
theorem may_wait {d : Dk} {k : Nat} {x : Wt} (hk : d.2[k]? = some x) (h : wtB x = false) : mayB d = false := by
  have : d.2.all wtB = false := all_not hk h
  rw [mayB, this]
  simp
theorem may_mk {d : Dk} (h1 : d.1.length = 256) (h2 : d.2.length ≤ 4096) (h3 : d.1.all byB = true) (h4 : d.2.all wtB = true) : mayB d = true := by simp [mayB, h1, h2, h3, h4]
theorem may_of {d : Dk} (h : mayB d = true) : d.1.length = 256 ∧ d.2.length ≤ 4096 ∧ (∀ (k : Nat) (x : List UInt8), d.1[k]? = some x → x.length = 128) ∧ ∀ (k : Nat) (x : Wt), d.2[k]? = some x → 0 ≤ x.1 ∧ x.1 < 256 ∧ x.2.length = 128 := by
  simp only [mayB, Bool.and_eq_true, decide_eq_true_eq] at h
  obtain ⟨⟨⟨h1, h2⟩, h3⟩, h4⟩ := h
  refine ⟨h1, h2, fun k x hk => by simpa [byB] using all_at h3 hk, fun k x hk => ?_⟩
  have := all_at h4 hk
  simp only [wtB, Bool.and_eq_true, decide_eq_true_eq] at this
  exact ⟨this.1.1, this.1.2, this.2⟩

/-! ### Arguments -/
theorem opens_by : Opens Tryz.prog 27 rBy := opens_sl Tryz.underlying27 (by kernel_rfl) (opens_u8 Tryz.underlying5)
theorem opens_wt : Opens Tryz.prog 106 rWt := opens_pair Tryz.underlying106 rfl (by kernel_rfl) (by kernel_rfl) (opens_k Tryz.underlying3) opens_by
theorem opens_disk : Opens Tryz.prog 26 rDisk := opens_pair Tryz.underlying26 rfl (by kernel_rfl) (by kernel_rfl) (opens_sl Tryz.underlying23 (by kernel_rfl) opens_by) (opens_sl Tryz.underlying24 (by kernel_rfl) opens_wt)
/-! ### The cells of a disk's rows -/
end Go.Proofs.YtdaidhbmfocodaaGreat

/-
  A region that draws its order, with operations that make memory: each operation is shown once, in the order of the text, from what the operations say on which it leans; then every order serves. No program, no condition of its own.
-/
namespace Go.Proofs.YtdaidhbmfocodaaGreat
open Go.RowKit

abbrev Env := List (Tmp × (World → Prop))
/-- What an operation does: R holds of the value that it leaves and of the world behind it. -/
def doesUpon (P : Program) (R : Value → World → Prop) : Result Next → Prop
  | .ok (.value v) w' => R v w'
  | .ok .skip w' => R undef w'
  | .ok (.enter f args) w' => Calls P f args w' (fun e w'' => ∃ v, e = .returned v ∧ R v w'')
  | _ => False
/-- Of what is known of slots, that which operation o may lean on. -/
def seen (ops : Array Oper) (o : Oper) (w : World) : Env → Prop
  | [] => True
  | p :: r => ((o.looksAt ops).contains p.1 = true → p.2 w) ∧ seen ops o w r
def envAdd (d : Option Tmp) (p : World → Prop) (env : Env) : Env :=
  match d with
  | some d => (d, p) :: env
  | none => env
def holds (w : World) : Env → Prop
  | [] => True
  | p :: r => p.2 w ∧ holds w r

/-- The walk in the order of the text. -/
def wpAs (P : Program) (ops : Array Oper) (C : World → Prop) (phi : Nat → Option (Value → World → Prop)) (fx : Nat → Option Value) (Q : Act → World → Prop) : Nat → List Oper → Act → Env → Prop
  | _, [], a, env => ∀ w, C w → holds w env → Q a w
  | i, o :: rest, a, env =>
    if Region.wanted o (yielded ops a.tmps) = true then
      match phi i with
      | none =>
        match fx i with
        | none => ∃ v, (∀ w, C w → seen ops o w env → (execOp a.eval o).run P w = .ok (.value v) w) ∧ wpAs P ops C phi fx Q (i + 1) rest (a.put o.dst v) env
        | some u => (∀ w, C w → seen ops o w env → doesUpon P (fun v w' => v = u ∧ Below w.heap.size w w') ((execOp a.eval o).run P w)) ∧ wpAs P ops C phi fx Q (i + 1) rest (a.put o.dst u) env
      | some φ => (∀ w, C w → seen ops o w env → doesUpon P (fun v w' => φ v w' ∧ Below w.heap.size w w') ((execOp a.eval o).run P w)) ∧
          ∀ v, wpAs P ops C phi fx Q (i + 1) rest (a.put o.dst v) (envAdd o.dst (φ v) env)
    else wpAs P ops C phi fx Q (i + 1) rest (a.put o.dst undef) env

section
variable {P : Program} {ops : Array Oper} {C : World → Prop} {phi : Nat → Option (Value → World → Prop)} {fx : Nat → Option Value} {Q : Act → World → Prop}

theorem wpAs_skip {i : Nat} {o : Oper} {rest : List Oper} {a : Act} {env : Env} (hw : Region.wanted o (yielded ops a.tmps) = false) (h : wpAs P ops C phi fx Q (i + 1) rest (a.put o.dst undef) env) : wpAs P ops C phi fx Q i (o :: rest) a env := by
  unfold wpAs
  rw [if_neg (by rw [hw]; exact Bool.false_ne_true)]
  exact h
theorem wpAs_fixed {i : Nat} {o : Oper} {rest : List Oper} {a : Act} {env : Env} {u : Value} (hw : Region.wanted o (yielded ops a.tmps) = true) (hp : phi i = none) (hf : fx i = some u)
    (hv : ∀ w, C w → seen ops o w env → doesUpon P (fun v w' => v = u ∧ Below w.heap.size w w') ((execOp a.eval o).run P w)) (h : wpAs P ops C phi fx Q (i + 1) rest (a.put o.dst u) env) : wpAs P ops C phi fx Q i (o :: rest) a env := by
  unfold wpAs
  rw [if_pos hw, hp]
  simp only [hf]
  exact ⟨hv, h⟩
theorem wpAs_pure {i : Nat} {o : Oper} {rest : List Oper} {a : Act} {env : Env} {v : Value} (hw : Region.wanted o (yielded ops a.tmps) = true) (hp : phi i = none)
    (hv : ∀ w, C w → seen ops o w env → (execOp a.eval o).run P w = .ok (.value v) w) (h : wpAs P ops C phi fx Q (i + 1) rest (a.put o.dst v) env) (hf : fx i = none := by rfl) : wpAs P ops C phi fx Q i (o :: rest) a env := by
  unfold wpAs
  rw [if_pos hw, hp]
  simp only [hf]
  exact ⟨v, hv, h⟩
theorem wpAs_act {i : Nat} {o : Oper} {rest : List Oper} {a : Act} {env : Env} {φ : Value → World → Prop} (hw : Region.wanted o (yielded ops a.tmps) = true) (hp : phi i = some φ)
    (hv : ∀ w, C w → seen ops o w env → doesUpon P (fun v w' => φ v w' ∧ Below w.heap.size w w') ((execOp a.eval o).run P w)) (h : ∀ v, wpAs P ops C phi fx Q (i + 1) rest (a.put o.dst v) (envAdd o.dst (φ v) env)) : wpAs P ops C phi fx Q i (o :: rest) a env := by
  unfold wpAs
  rw [if_pos hw, hp]
  exact ⟨hv, h⟩
theorem wpAs_end {i : Nat} {a : Act} {env : Env} (h : ∀ w, C w → holds w env → Q a w) : wpAs P ops C phi fx Q i [] a env := h

/-! ### The frames of the walk, once the acting operations' values are given -/
open Classical in
/-- The value that operation i leaves in the walk's frame. -/
noncomputable def valAs (P : Program) (ops : Array Oper) (C : World → Prop) (phi : Nat → Option (Value → World → Prop)) (fx : Nat → Option Value) (Q : Act → World → Prop) (c : Nat → Value) (i : Nat) (o : Oper) (s : Act × Env) : Value :=
  if Region.wanted o (yielded ops s.1.tmps) = true then
    match phi i with
    | none =>
      match fx i with
      | some u => u
      | none => Classical.epsilon fun v => (∀ w, C w → seen ops o w s.2 → (execOp s.1.eval o).run P w = .ok (.value v) w) ∧ wpAs P ops C phi fx Q (i + 1) (ops.toList.drop (i + 1)) (s.1.put o.dst v) s.2
    | some _ => c i
  else undef
noncomputable def envAs (ops : Array Oper) (phi : Nat → Option (Value → World → Prop)) (c : Nat → Value) (i : Nat) (o : Oper) (s : Act × Env) : Env :=
  if Region.wanted o (yielded ops s.1.tmps) = true then
    match phi i with
    | none => s.2
    | some φ => envAdd o.dst (φ (c i)) s.2
  else s.2
noncomputable def stAs (P : Program) (ops : Array Oper) (C : World → Prop) (phi : Nat → Option (Value → World → Prop)) (fx : Nat → Option Value) (Q : Act → World → Prop) (a0 : Act) (c : Nat → Value) : Nat → Act × Env
  | 0 => (a0, [])
  | i + 1 =>
    match ops[i]? with
    | some o => ((stAs P ops C phi fx Q a0 c i).1.put o.dst (valAs P ops C phi fx Q c i o (stAs P ops C phi fx Q a0 c i)), envAs ops phi c i o (stAs P ops C phi fx Q a0 c i))
    | none => stAs P ops C phi fx Q a0 c i

theorem stAs_walk {a0 : Act} (h0 : wpAs P ops C phi fx Q 0 ops.toList a0 []) (c : Nat → Value) : ∀ i, i ≤ ops.size →
    wpAs P ops C phi fx Q i (ops.toList.drop i) (stAs P ops C phi fx Q a0 c i).1 (stAs P ops C phi fx Q a0 c i).2 := by
  intro i
  induction i with
  | zero => intro _; simpa [stAs] using h0
  | succ i ih =>
    intro hi
    have h := ih (by omega)
    have hd : ops.toList.drop i = ops[i]'(by omega) :: ops.toList.drop (i + 1) := by
      rw [List.drop_eq_getElem_cons (by simp; omega)]
      simp
    have ho : ops[i]? = some (ops[i]'(by omega)) := Array.getElem?_eq_getElem (by omega)
    rw [hd] at h
    generalize hs : stAs P ops C phi fx Q a0 c i = s at *
    generalize ops[i]'(by omega) = o at *
    have e1 : stAs P ops C phi fx Q a0 c (i + 1) = (s.1.put o.dst (valAs P ops C phi fx Q c i o s), envAs ops phi c i o s) := by
      simp only [stAs, ho, hs]
    rw [e1]
    unfold wpAs at h
    unfold valAs envAs
    by_cases hw : Region.wanted o (yielded ops s.1.tmps) = true
    · simp only [if_pos hw] at h ⊢
      cases hp : phi i with
      | none =>
        cases hf : fx i with
        | none =>
          simp only [hp, hf] at h ⊢
          exact (Classical.epsilon_spec h).2
        | some u =>
          simp only [hp, hf] at h ⊢
          exact h.2
      | some φ =>
        simp only [hp] at h ⊢
        exact h.2 _
    · simp only [if_neg hw] at h ⊢
      exact h

/-- What an unacting operation that is wanted leaves, and where. -/
theorem valAs_pure {a0 : Act} (h0 : wpAs P ops C phi fx Q 0 ops.toList a0 []) (c : Nat → Value) {i : Nat} {o : Oper} (ho : ops[i]? = some o) (hw : Region.wanted o (yielded ops (stAs P ops C phi fx Q a0 c i).1.tmps) = true) (hp : phi i = none) (hf : fx i = none) :
    ∀ w, C w → seen ops o w (stAs P ops C phi fx Q a0 c i).2 → (execOp (stAs P ops C phi fx Q a0 c i).1.eval o).run P w = .ok (.value (valAs P ops C phi fx Q c i o (stAs P ops C phi fx Q a0 c i))) w := by
  have hi : i < ops.size := (Array.getElem?_eq_some_iff.1 ho).1
  have h := stAs_walk h0 c i (by omega)
  have hd : ops.toList.drop i = o :: ops.toList.drop (i + 1) := by
    rw [List.drop_eq_getElem_cons (by simp; omega)]
    have := (Array.getElem?_eq_some_iff.1 ho).2
    simp [this]
  rw [hd] at h
  unfold wpAs at h
  simp only [if_pos hw, hp, hf] at h
  unfold valAs
  simp only [if_pos hw, hp, hf]
  exact (Classical.epsilon_spec h).1
/-- What one of a given value leaves. -/
theorem valAs_fixed {a0 : Act} (h0 : wpAs P ops C phi fx Q 0 ops.toList a0 []) (c : Nat → Value) {i : Nat} {o : Oper} (ho : ops[i]? = some o) (hw : Region.wanted o (yielded ops (stAs P ops C phi fx Q a0 c i).1.tmps) = true) (hp : phi i = none) {u : Value} (hf : fx i = some u) :
    ∀ w, C w → seen ops o w (stAs P ops C phi fx Q a0 c i).2 → doesUpon P (fun v w' => v = u ∧ Below w.heap.size w w') ((execOp (stAs P ops C phi fx Q a0 c i).1.eval o).run P w) := by
  have hi : i < ops.size := (Array.getElem?_eq_some_iff.1 ho).1
  have h := stAs_walk h0 c i (by omega)
  have hd : ops.toList.drop i = o :: ops.toList.drop (i + 1) := by
    rw [List.drop_eq_getElem_cons (by simp; omega)]
    have := (Array.getElem?_eq_some_iff.1 ho).2
    simp [this]
  rw [hd] at h
  unfold wpAs at h
  simp only [if_pos hw, hp, hf] at h
  exact h.1
theorem valAs_act {a0 : Act} (h0 : wpAs P ops C phi fx Q 0 ops.toList a0 []) (c : Nat → Value) {i : Nat} {o : Oper} {φ : Value → World → Prop} (ho : ops[i]? = some o) (hw : Region.wanted o (yielded ops (stAs P ops C phi fx Q a0 c i).1.tmps) = true) (hp : phi i = some φ) :
    ∀ w, C w → seen ops o w (stAs P ops C phi fx Q a0 c i).2 → doesUpon P (fun v w' => φ v w' ∧ Below w.heap.size w w') ((execOp (stAs P ops C phi fx Q a0 c i).1.eval o).run P w) := by
  have hi : i < ops.size := (Array.getElem?_eq_some_iff.1 ho).1
  have h := stAs_walk h0 c i (by omega)
  have hd : ops.toList.drop i = o :: ops.toList.drop (i + 1) := by
    rw [List.drop_eq_getElem_cons (by simp; omega)]
    have := (Array.getElem?_eq_some_iff.1 ho).2
    simp [this]
  rw [hd] at h
  unfold wpAs at h
  simp only [if_pos hw, hp] at h
  exact h.1

/-! ### What is asked of the region: by looking -/
/-- i leans on j. -/
def leans (ops : Array Oper) (i j : Nat) : Bool := ((ops[i]?).map fun o => o.after.any fun e => Region.binds .any e && e.on == j).getD false
def okAs (ops : Array Oper) (size : Nat) : Bool :=
  Region.noSelect ops &&
  ((List.range ops.size).all fun i => match ops[i]? with
    | none => true
    | some o => (o.after.all fun e => !Region.binds .any e || decide (e.on < i)) &&
      (match o.dst with | some d => decide (d < size) | none => true) &&
      ((List.range ops.size).all fun j => match ops[j]? with
        | none => true
        | some o' => (j == i || o'.dst == none || o'.dst != o.dst) &&
          (match o'.dst with | some d => !(o.looksAt ops).contains d || leans ops i j || leans ops j i || j == i | none => true)))

structure Ok (ops : Array Oper) (size : Nat) : Prop where
  sel : Region.noSelect ops = true
  less : ∀ (i : Nat) (o : Oper), ops[i]? = some o → ∀ e ∈ o.after, Region.binds .any e = true → e.on < i
  inb : ∀ (i : Nat) (o : Oper) (d : Tmp), ops[i]? = some o → o.dst = some d → d < size
  apart : ∀ (i j : Nat) (o o' : Oper) (d : Tmp), ops[i]? = some o → ops[j]? = some o' → o.dst = some d → o'.dst = some d → i = j
  edge : ∀ (i j : Nat) (o o' : Oper) (d : Tmp), ops[i]? = some o → ops[j]? = some o' → o'.dst = some d → d ∈ o.looksAt ops → leans ops i j = true ∨ leans ops j i = true ∨ j = i

theorem ok_of {size : Nat} (h : okAs ops size = true) : Ok ops size := by
  unfold okAs at h
  rw [Bool.and_eq_true, List.all_eq_true] at h
  obtain ⟨hs, h⟩ := h
  have hl : ∀ {i : Nat} {o : Oper}, ops[i]? = some o → i < ops.size := fun ho => (Array.getElem?_eq_some_iff.1 ho).1
  have H : ∀ (i : Nat) (o : Oper), ops[i]? = some o → (o.after.all fun e => !Region.binds .any e || decide (e.on < i)) = true ∧ (match o.dst with | some d => decide (d < size) | none => true) = true ∧
      ∀ (j : Nat) (o' : Oper), ops[j]? = some o' → (j == i || o'.dst == none || o'.dst != o.dst) = true ∧ (match o'.dst with | some d => !(o.looksAt ops).contains d || leans ops i j || leans ops j i || j == i | none => true) = true := by
    intro i o ho
    have h1 := h i (List.mem_range.2 (hl ho))
    simp only [ho, Bool.and_eq_true] at h1
    obtain ⟨⟨ha, hb⟩, hc⟩ := h1
    refine ⟨ha, hb, fun j o' ho' => ?_⟩
    have h2 := List.all_eq_true.1 hc j (List.mem_range.2 (hl ho'))
    simp only [ho', Bool.and_eq_true] at h2
    exact h2
  refine ⟨hs, fun i o ho e he hb => ?_, fun i o d ho hd => ?_, fun i j o o' d ho ho' hd hd' => ?_, fun i j o o' d ho ho' hd' hm => ?_⟩
  · have := Array.all_eq_true_iff_forall_mem.1 (H i o ho).1 e he
    simpa [hb] using this
  · have := (H i o ho).2.1
    simpa [hd] using this
  · have := ((H i o ho).2.2 j o' ho').1
    simp [hd, hd'] at this
    exact this.symm
  · have := ((H i o ho).2.2 j o' ho').2
    simp only [hd', Bool.or_eq_true, Bool.not_eq_true', beq_iff_eq] at this
    rcases this with ((h1 | h1) | h1) | h1
    · rw [List.contains_iff_mem.2 hm] at h1; cases h1
    · exact .inl h1
    · exact .inr (.inl h1)
    · exact .inr (.inr h1)

/-! ### The frames -/
theorem put_size (a : Act) (d : Option Tmp) (v : Value) : (a.put d v).tmps.size = a.tmps.size := by
  cases d <;> simp [Act.put]
theorem put_defers' (a : Act) (d : Option Tmp) (v : Value) : (a.put d v).defers = a.defers := by
  cases d <;> rfl
theorem put_other (a : Act) (d : Option Tmp) (v : Value) (t : Tmp) (h : d ≠ some t) : (a.put d v).tmps.getD t undef = a.tmps.getD t undef := by
  cases d with
  | none => rfl
  | some d =>
    have hne : d ≠ t := fun e => h (by rw [e])
    simp [Act.put, Array.getElem?_setIfInBounds_ne hne]
theorem put_here (a : Act) (d : Tmp) (v : Value) (h : d < a.tmps.size) : (a.put (some d) v).tmps.getD d undef = v := by
  simp [Act.put, h]
theorem stAs_succ {a0 : Act} {c : Nat → Value} {i : Nat} {o : Oper} (ho : ops[i]? = some o) : stAs P ops C phi fx Q a0 c (i + 1) = ((stAs P ops C phi fx Q a0 c i).1.put o.dst (valAs P ops C phi fx Q c i o (stAs P ops C phi fx Q a0 c i)), envAs ops phi c i o (stAs P ops C phi fx Q a0 c i)) := by
  simp only [stAs, ho]
theorem stAs_size (a0 : Act) (c : Nat → Value) : ∀ i, (stAs P ops C phi fx Q a0 c i).1.tmps.size = a0.tmps.size
  | 0 => rfl
  | i + 1 => by
    cases ho : ops[i]? with
    | none => simp only [stAs, ho]; exact stAs_size a0 c i
    | some o => rw [stAs_succ ho]; exact (put_size _ _ _).trans (stAs_size a0 c i)
theorem stAs_defers (a0 : Act) (c : Nat → Value) : ∀ i, (stAs P ops C phi fx Q a0 c i).1.defers = a0.defers
  | 0 => rfl
  | i + 1 => by
    cases ho : ops[i]? with
    | none => simp only [stAs, ho]; exact stAs_defers a0 c i
    | some o => rw [stAs_succ ho]; exact (put_defers' _ _ _).trans (stAs_defers a0 c i)
/-- A slot that no operation ahead of i leaves anything in. -/
theorem stAs_old (a0 : Act) (c : Nat → Value) (t : Tmp) : ∀ i, (∀ j o, j < i → ops[j]? = some o → o.dst ≠ some t) → (stAs P ops C phi fx Q a0 c i).1.tmps.getD t undef = a0.tmps.getD t undef
  | 0, _ => rfl
  | i + 1, h => by
    have ih := stAs_old a0 c t i (fun j o hj ho => h j o (by omega) ho)
    cases ho : ops[i]? with
    | none => simp only [stAs, ho]; exact ih
    | some o => rw [stAs_succ ho]; exact (put_other _ _ _ _ (h i o (by omega) ho)).trans ih
/-- The value of operation i in the walk's frame. -/
noncomputable def vAs (P : Program) (ops : Array Oper) (C : World → Prop) (phi : Nat → Option (Value → World → Prop)) (fx : Nat → Option Value) (Q : Act → World → Prop) (a0 : Act) (c : Nat → Value) (i : Nat) : Value :=
  match ops[i]? with
  | some o => valAs P ops C phi fx Q c i o (stAs P ops C phi fx Q a0 c i)
  | none => undef
theorem stAs_at {a0 : Act} (hok : Ok ops a0.tmps.size) (c : Nat → Value) {j : Nat} {o : Oper} {d : Tmp} (ho : ops[j]? = some o) (hd : o.dst = some d) : ∀ i, j < i → (stAs P ops C phi fx Q a0 c i).1.tmps.getD d undef = vAs P ops C phi fx Q a0 c j
  | 0, h => absurd h (by omega)
  | i + 1, h => by
    by_cases hji : j = i
    · subst hji
      rw [stAs_succ ho, hd]
      unfold vAs
      simp only [ho]
      exact put_here _ _ _ (by rw [stAs_size]; exact hok.inb j o d ho hd)
    · have ih := stAs_at hok c ho hd i (by omega)
      cases ho' : ops[i]? with
      | none => simp only [stAs, ho']; exact ih
      | some o' =>
        rw [stAs_succ ho']
        exact (put_other _ _ _ _ (fun e => hji (hok.apart j i o o' d ho ho' hd e))).trans ih

/-- Two frames that agree on what an operation looks at: it does the same there. -/
theorem same_looks {o : Oper} (hs : ∀ cs b, o.op ≠ .select cs b) {a b : Act} (hsz : a.tmps.size = b.tmps.size) (h : ∀ t ∈ o.looksAt ops, a.tmps.getD t undef = b.tmps.getD t undef) :
    execOp a.eval o = execOp b.eval o ∧ Region.wanted o (yielded ops a.tmps) = Region.wanted o (yielded ops b.tmps) := by
  constructor
  · refine execOp_congr o hs fun x hx => ?_
    cases x with
    | tmp t => exact h t (List.mem_append_left _ (List.mem_filterMap.2 ⟨.tmp t, by simpa using hx, rfl⟩))
    | _ => rfl
  · unfold Region.wanted
    cases hg : o.guard with
    | none => rfl
    | some gw =>
      obtain ⟨g, want⟩ := gw
      have hy : yielded ops a.tmps g = yielded ops b.tmps g := by
        unfold yielded
        cases ht : (ops[g]?).bind (·.dst) with
        | none => rfl
        | some t =>
          have h1 := h t (List.mem_append_right _ (by simp [hg, ht]))
          have h2 : a.tmps[t]? = b.tmps[t]? := by
            by_cases hlt : t < a.tmps.size
            · have hlt' : t < b.tmps.size := hsz ▸ hlt
              rw [Array.getElem?_eq_getElem hlt, Array.getElem?_eq_getElem hlt']
              simp only [Array.getD, hlt, hlt', dite_true] at h1
              exact congrArg some h1
            · rw [Array.getElem?_eq_none (Nat.le_of_not_lt hlt), Array.getElem?_eq_none (Nat.le_of_not_lt (hsz ▸ hlt))]
          simp only [Option.bind_some, h2]
      simp only [hy]

/-! ### Any order -/
theorem wp_of_does {o : Oper} {a : Act} {w : World} {K : Act → World → Prop} {Q' : Exit → Act → World → Prop} {R : Value → World → Prop} (h : doesUpon P R ((execOp a.eval o).run P w)) (hk : ∀ v w', R v w' → K (a.put o.dst v) w') : o.wp P a w K Q' := by
  unfold Oper.wp
  generalize (execOp a.eval o).run P w = r at *
  cases r with
  | halt x w' => exact h.elim
  | ok n w' =>
    cases n <;> simp only [doesUpon] at h <;> simp only [Oper.upon]
    case value v => exact hk _ _ h
    case skip => exact hk _ _ h
    case enter f args =>
      refine h.mono fun e w'' he => ?_
      obtain ⟨v, rfl, hr⟩ := he
      exact hk _ _ hr

/-- The state when some operations have come up: they left the values u. -/
structure Inv (P : Program) (ops : Array Oper) (C : World → Prop) (phi : Nat → Option (Value → World → Prop)) (fx : Nat → Option Value) (Q : Act → World → Prop) (a0 : Act) (listed : Array Bool) (u : Nat → Value) (a : Act) (w : World) : Prop where
  lsize : listed.size = ops.size
  size : a.tmps.size = a0.tmps.size
  defers : a.defers = a0.defers
  closed : ∀ i o, ops[i]? = some o → listed.getD i false = true → ∀ e ∈ o.after, Region.binds .any e = true → listed.getD e.on false = true
  new : ∀ i o d, ops[i]? = some o → listed.getD i false = true → o.dst = some d → a.tmps.getD d undef = u i
  old : ∀ t, (∀ i o, ops[i]? = some o → o.dst = some t → listed.getD i false = false) → a.tmps.getD t undef = a0.tmps.getD t undef
  world : C w
  val : ∀ c : Nat → Value, (∀ j, listed.getD j false = true → (phi j).isSome = true → c j = u j) → ∀ i, listed.getD i false = true → vAs P ops C phi fx Q a0 c i = u i
  act : ∀ c : Nat → Value, (∀ j, listed.getD j false = true → (phi j).isSome = true → c j = u j) → ∀ i o φ, ops[i]? = some o → listed.getD i false = true → phi i = some φ →
    Region.wanted o (yielded ops (stAs P ops C phi fx Q a0 c i).1.tmps) = true → φ (u i) w

section
variable {a0 : Act} {listed : Array Bool} {u : Nat → Value} {a : Act} {w : World}

theorem leans_spec {i j : Nat} {o : Oper} (ho : ops[i]? = some o) (h : leans ops i j = true) : ∃ e ∈ o.after, Region.binds .any e = true ∧ e.on = j := by
  simp only [leans, ho, Option.map_some, Option.getD_some] at h
  obtain ⟨e, he, hb⟩ := Array.any_eq_true'.1 h
  simp only [Bool.and_eq_true, beq_iff_eq] at hb
  exact ⟨e, he, hb.1, hb.2⟩

/-- The frame at hand and the walk's frame agree on what an operation that may come up looks at. -/
theorem Inv.looks (hok : Ok ops a0.tmps.size) (I : Inv P ops C phi fx Q a0 listed u a w) {c : Nat → Value} (hc : ∀ j, listed.getD j false = true → (phi j).isSome = true → c j = u j) {i : Nat} {o : Oper} (ho : ops[i]? = some o)
    (hi : listed.getD i false = false) (hr : ∀ e ∈ o.after, Region.binds .any e = true → listed.getD e.on false = true) :
    ∀ t ∈ o.looksAt ops, a.tmps.getD t undef = (stAs P ops C phi fx Q a0 c i).1.tmps.getD t undef := by
  intro t ht
  by_cases hj : ∃ (j : Nat) (o' : Oper), ops[j]? = some o' ∧ o'.dst = some t
  · obtain ⟨j, o', ho', hd⟩ := hj
    rcases hok.edge i j o o' t ho ho' hd ht with h | h | h
    · obtain ⟨e, he, hb, rfl⟩ := leans_spec ho h
      have hl := hr e he hb
      rw [I.new _ o' t ho' hl hd, stAs_at hok c ho' hd i (hok.less i o ho e he hb), I.val c hc _ hl]
    all_goals
      have hun : listed.getD j false = false := by
        first
          | (subst h; exact hi)
          | (obtain ⟨e, he, hb, rfl⟩ := leans_spec ho' h
             cases hl : listed.getD j false with
             | false => rfl
             | true =>
               have := I.closed j o' ho' hl e he hb
               rw [hi] at this
               cases this)
      have hle : i ≤ j := by
        first
          | (subst h; exact Nat.le_refl _)
          | (obtain ⟨e, he, hb, rfl⟩ := leans_spec ho' h
             exact Nat.le_of_lt (hok.less j o' ho' e he hb))
      rw [I.old t (fun k ok hk hdk => by rw [← hok.apart j k o' ok t ho' hk hd hdk]; exact hun),
        stAs_old a0 c t i (fun k ok hk hok' hdk => by have := hok.apart j k o' ok t ho' hok' hd hdk; omega)]
  · rw [I.old t (fun k ok hk hdk => absurd ⟨k, ok, hk, hdk⟩ hj), stAs_old a0 c t i (fun k ok _ hk hdk => hj ⟨k, ok, hk, hdk⟩)]

theorem seen_st {o : Oper} (c : Nat → Value) : ∀ k, (∀ (j : Nat) (oj : Oper) (φ : Value → World → Prop) (d : Tmp), j < k → ops[j]? = some oj → phi j = some φ → Region.wanted oj (yielded ops (stAs P ops C phi fx Q a0 c j).1.tmps) = true → oj.dst = some d → d ∈ o.looksAt ops → φ (c j) w) →
    seen ops o w (stAs P ops C phi fx Q a0 c k).2
  | 0, _ => trivial
  | k + 1, h => by
    have ih := seen_st (o := o) c k (fun j oj φ d hj => h j oj φ d (by omega))
    cases ho : ops[k]? with
    | none => simp only [stAs, ho]; exact ih
    | some ok =>
      rw [stAs_succ ho]
      unfold envAs
      by_cases hw : Region.wanted ok (yielded ops (stAs P ops C phi fx Q a0 c k).1.tmps) = true
      · simp only [if_pos hw]
        cases hp : phi k with
        | none => exact ih
        | some φ =>
          simp only
          unfold envAdd
          cases hd : ok.dst with
          | none => exact ih
          | some d => exact ⟨fun hc => h k ok φ d (by omega) ho hp hw hd (List.contains_iff_mem.1 hc), ih⟩
      · simp only [if_neg hw]
        exact ih
theorem holds_st (c : Nat → Value) : ∀ k, (∀ (j : Nat) (oj : Oper) (φ : Value → World → Prop), j < k → ops[j]? = some oj → phi j = some φ → Region.wanted oj (yielded ops (stAs P ops C phi fx Q a0 c j).1.tmps) = true → φ (c j) w) →
    holds w (stAs P ops C phi fx Q a0 c k).2
  | 0, _ => trivial
  | k + 1, h => by
    have ih := holds_st c k (fun j oj φ hj => h j oj φ (by omega))
    cases ho : ops[k]? with
    | none => simp only [stAs, ho]; exact ih
    | some ok =>
      rw [stAs_succ ho]
      unfold envAs
      by_cases hw : Region.wanted ok (yielded ops (stAs P ops C phi fx Q a0 c k).1.tmps) = true
      · simp only [if_pos hw]
        cases hp : phi k with
        | none => exact ih
        | some φ =>
          simp only
          unfold envAdd
          cases hd : ok.dst with
          | none => exact ih
          | some d => exact ⟨h k ok φ (by omega) ho hp hw, ih⟩
      · simp only [if_neg hw]
        exact ih

/-- One operation more has come up and left v. -/
theorem Inv.next (hok : Ok ops a0.tmps.size) (I : Inv P ops C phi fx Q a0 listed u a w) {i : Nat} {o : Oper} {v : Value} {w' : World} (ho : ops[i]? = some o) (hi : listed.getD i false = false)
    (hr : ∀ e ∈ o.after, Region.binds .any e = true → listed.getD e.on false = true) (hC : C w') (hst : ∀ (j : Nat) (φ : Value → World → Prop) (x : Value), phi j = some φ → φ x w → φ x w')
    (hv : ∀ c : Nat → Value, (∀ j, listed.getD j false = true → (phi j).isSome = true → c j = u j) → ((phi i).isSome = true → c i = v) → vAs P ops C phi fx Q a0 c i = v)
    (ha : ∀ c : Nat → Value, (∀ j, listed.getD j false = true → (phi j).isSome = true → c j = u j) → ∀ φ, phi i = some φ → Region.wanted o (yielded ops (stAs P ops C phi fx Q a0 c i).1.tmps) = true → φ v w') :
    Inv P ops C phi fx Q a0 (listed.setIfInBounds i true) (fun j => if j = i then v else u j) (a.put o.dst v) w' := by
  have hlt : i < ops.size := (Array.getElem?_eq_some_iff.1 ho).1
  have hL : ∀ j, (listed.setIfInBounds i true).getD j false = true ↔ j = i ∨ listed.getD j false = true := by
    intro j
    by_cases hji : i = j
    · subst hji
      have : i < listed.size := by rw [I.lsize]; exact hlt
      simp [this]
    · rw [getD_set_ne false hji]
      constructor
      · exact .inr
      · rintro (h | h)
        · exact absurd h.symm hji
        · exact h
  have hne : ∀ j, listed.getD j false = true → j ≠ i := fun j hj e => by rw [e, hi] at hj; cases hj
  have hag : ∀ c : Nat → Value, (∀ j, (listed.setIfInBounds i true).getD j false = true → (phi j).isSome = true → c j = if j = i then v else u j) →
      (∀ j, listed.getD j false = true → (phi j).isSome = true → c j = u j) ∧ ((phi i).isSome = true → c i = v) := fun c hc =>
    ⟨fun j hj hp => by have := hc j ((hL j).2 (.inr hj)) hp; rwa [if_neg (hne j hj)] at this, fun hp => by have := hc i ((hL i).2 (.inl rfl)) hp; rwa [if_pos rfl] at this⟩
  refine ⟨by simpa using I.lsize, (put_size _ _ _).trans I.size, (put_defers' _ _ _).trans I.defers, ?_, ?_, ?_, hC, ?_, ?_⟩
  · intro j oj hoj hj e he hb
    rcases (hL j).1 hj with rfl | h
    · rw [ho] at hoj
      cases hoj
      exact (hL _).2 (.inr (hr e he hb))
    · exact (hL _).2 (.inr (I.closed j oj hoj h e he hb))
  · intro j oj d hoj hj hd
    rcases (hL j).1 hj with rfl | h
    · rw [ho] at hoj
      cases hoj
      rw [hd, if_pos rfl]
      exact put_here _ _ _ (by rw [I.size]; exact hok.inb j o d ho hd)
    · rw [if_neg (hne j h)]
      exact (put_other _ _ _ _ (fun e => hne j h (hok.apart j i oj o d hoj ho hd e))).trans (I.new j oj d hoj h hd)
  · intro t ht
    have hn : o.dst ≠ some t := fun e => by have := ht i o ho e; rw [(hL i).2 (.inl rfl)] at this; cases this
    refine (put_other _ _ _ _ hn).trans (I.old t fun j oj hoj hd => ?_)
    have := ht j oj hoj hd
    cases hl : listed.getD j false with
    | false => rfl
    | true => rw [(hL j).2 (.inr hl)] at this; cases this
  · intro c hc j hj
    obtain ⟨h1, h2⟩ := hag c hc
    rcases (hL j).1 hj with rfl | h
    · rw [if_pos rfl]; exact hv c h1 h2
    · rw [if_neg (hne j h)]; exact I.val c h1 j h
  · intro c hc j oj φ hoj hj hp hw
    obtain ⟨h1, h2⟩ := hag c hc
    rcases (hL j).1 hj with rfl | h
    · rw [ho] at hoj
      cases hoj
      rw [if_pos rfl]
      exact ha c h1 φ hp hw
    · rw [if_neg (hne j h)]
      exact hst j φ _ hp (I.act c h1 j oj φ hoj h hp hw)

theorem Inv.step (hok : Ok ops a0.tmps.size) (h0 : wpAs P ops C phi fx Q 0 ops.toList a0 []) (hCb : ∀ w w', C w → Below w.heap.size w w' → C w') (hst : ∀ (j : Nat) (φ : Value → World → Prop) (x : Value) (w w' : World), phi j = some φ → φ x w → Below w.heap.size w w' → φ x w')
    (I : Inv P ops C phi fx Q a0 listed u a w) {i : Nat} (hi : i ∈ Region.ready .any ops listed) {Q' : Exit → Act → World → Prop} :
    wpOp P ops Q' i (fun a' w' => ∃ u', Inv P ops C phi fx Q a0 (listed.setIfInBounds i true) u' a' w') a w := by
  obtain ⟨hun, o, ho, hr⟩ := mem_ready.1 hi
  have hlt : i < ops.size := (Array.getElem?_eq_some_iff.1 ho).1
  have hil : listed.getD i false = false := by
    have : i < listed.size := by rw [I.lsize]; exact hlt
    simpa [this] using hun
  have hsel := Region.noSelect_spec hok.sel
  have look : ∀ c : Nat → Value, (∀ j, listed.getD j false = true → (phi j).isSome = true → c j = u j) →
      execOp a.eval o = execOp (stAs P ops C phi fx Q a0 c i).1.eval o ∧ Region.wanted o (yielded ops a.tmps) = Region.wanted o (yielded ops (stAs P ops C phi fx Q a0 c i).1.tmps) := fun c hc =>
    same_looks (fun cs b => hsel i o cs b ho) (I.size.trans (stAs_size a0 c i).symm) (I.looks hok hc ho hil hr)
  have see : ∀ c : Nat → Value, (∀ j, listed.getD j false = true → (phi j).isSome = true → c j = u j) → seen ops o w (stAs P ops C phi fx Q a0 c i).2 := fun c hc =>
    seen_st c i fun j oj φ d hj hoj hp hw hd hm => by
      rcases hok.edge i j o oj d ho hoj hd hm with h | h | h
      · obtain ⟨e, he, hb, rfl⟩ := leans_spec ho h
        have hl := hr e he hb
        rw [hc _ hl (by rw [hp]; rfl)]
        exact I.act c hc _ oj φ hoj hl hp hw
      · obtain ⟨e, he, hb, h'⟩ := leans_spec hoj h
        have := hok.less j oj hoj e he hb
        omega
      · omega
  have vas : ∀ c : Nat → Value, vAs P ops C phi fx Q a0 c i = valAs P ops C phi fx Q c i o (stAs P ops C phi fx Q a0 c i) := fun c => by
    unfold vAs
    simp only [ho]
  have hu : ∀ j, listed.getD j false = true → (phi j).isSome = true → u j = u j := fun _ _ _ => rfl
  unfold wpOp
  simp only [ho]
  by_cases hw : Region.wanted o (yielded ops a.tmps) = true
  · rw [if_pos hw]
    refine .inl ?_
    cases hp : phi i with
    | none =>
      cases hf : fx i with
      | none =>
        have hrun := valAs_pure h0 u ho (by rw [← (look u hu).2]; exact hw) hp hf w I.world (see u hu)
        rw [← (look u hu).1] at hrun
        unfold Oper.wp
        rw [hrun]
        refine ⟨_, I.next hok ho hil hr I.world (fun _ _ _ _ h => h) (fun c hc _ => ?_) (fun c hc φ hp' => by rw [hp] at hp'; cases hp')⟩
        have hrun' := valAs_pure h0 c ho (by rw [← (look c hc).2]; exact hw) hp hf w I.world (see c hc)
        rw [← (look c hc).1, hrun] at hrun'
        rw [vas c]
        injection hrun' with h1 _
        injection h1 with h1
        exact h1.symm
      | some x =>
        have hrun := valAs_fixed h0 u ho (by rw [← (look u hu).2]; exact hw) hp hf w I.world (see u hu)
        rw [← (look u hu).1] at hrun
        refine wp_of_does hrun fun v w' ⟨hφ, hb⟩ => ⟨_, I.next hok ho hil hr (hCb w w' I.world hb) (fun j φ' x hp' h => hst j φ' x w w' hp' h hb) (fun c hc _ => ?_) (fun c hc φ' hp' _ => ?_)⟩
        · rw [vas c]
          unfold valAs
          rw [if_pos (by rw [← (look c hc).2]; exact hw)]
          simp only [hp, hf]
          exact hφ.symm
        · rw [hp] at hp'
          cases hp'
    | some φ =>
      have hrun := valAs_act h0 u ho (by rw [← (look u hu).2]; exact hw) hp w I.world (see u hu)
      rw [← (look u hu).1] at hrun
      refine wp_of_does hrun fun v w' ⟨hφ, hb⟩ => ⟨_, I.next hok ho hil hr (hCb w w' I.world hb) (fun j φ' x hp' h => hst j φ' x w w' hp' h hb) (fun c hc hci => ?_) (fun c hc φ' hp' _ => ?_)⟩
      · rw [vas c]
        unfold valAs
        rw [if_pos (by rw [← (look c hc).2]; exact hw)]
        simp only [hp]
        exact hci (by rw [hp]; rfl)
      · rw [hp] at hp'
        cases hp'
        exact hφ
  · rw [if_neg hw]
    refine ⟨_, I.next hok ho hil hr I.world (fun _ _ _ _ h => h) (fun c hc _ => ?_) (fun c hc φ hp' hw' => ?_)⟩
    · rw [vas c]
      unfold valAs
      rw [if_neg (by rw [← (look c hc).2]; exact hw)]
    · rw [← (look c hc).2] at hw'
      exact absurd hw' hw

/-- How many have not come up. -/
def left (n : Nat) (listed : Array Bool) : Nat := ((List.range n).filter fun i => !listed.getD i false).length
theorem left_set {n : Nat} {listed : Array Bool} {i : Nat} (hi : i < n) (hs : listed.size = n) (hl : listed.getD i false = false) : left n (listed.setIfInBounds i true) < left n listed := by
  unfold left
  have hsub : ((List.range n).filter fun j => !(listed.setIfInBounds i true).getD j false) = ((List.range n).filter fun j => !listed.getD j false).filter (fun j => j != i) := by
    rw [List.filter_filter]
    refine List.filter_congr fun j _ => ?_
    by_cases hji : i = j
    · subst hji
      have : i < listed.size := by omega
      simp [this]
    · rw [getD_set_ne false hji]
      have : (j != i) = true := by simpa using fun e : j = i => hji e.symm
      simp [this]
  rw [hsub]
  refine List.length_filter_lt_length_iff_exists.2 ⟨i, ?_, by simp⟩
  rw [List.mem_filter, List.mem_range]
  exact ⟨hi, by rw [hl]; rfl⟩

theorem wpAny_of_as (hok : Ok ops a0.tmps.size) (h0 : wpAs P ops C phi fx Q 0 ops.toList a0 []) (hCb : ∀ w w', C w → Below w.heap.size w w' → C w') (hst : ∀ (j : Nat) (φ : Value → World → Prop) (x : Value) (w w' : World), phi j = some φ → φ x w → Below w.heap.size w w' → φ x w')
    {Q' : Exit → Act → World → Prop} (hQ : ∀ a w, Q a w → Q' .normal a w) : ∀ (fuel : Nat) (listed : Array Bool) (u : Nat → Value) (a : Act) (w : World), left ops.size listed ≤ fuel → Inv P ops C phi fx Q a0 listed u a w → wpAny P .any ops Q' fuel listed a w := by
  have fin : ∀ (listed : Array Bool) (u : Nat → Value) (a : Act) (w : World), Inv P ops C phi fx Q a0 listed u a w → Region.ready .any ops listed = [] → Q' .normal a w := by
    intro listed u a w I hr
    have all : ∀ n i, i < n → i < ops.size → listed.getD i false = true := by
      intro n
      induction n with
      | zero => intro i h; omega
      | succ n ih =>
        intro i hin hi
        cases hl : listed.getD i false with
        | true => rfl
        | false =>
          have ho : ops[i]? = some (ops[i]'hi) := Array.getElem?_eq_getElem hi
          have hmem : i ∈ Region.ready .any ops listed := by
            refine mem_ready.2 ⟨?_, _, ho, fun e he hb => ?_⟩
            · have : i < listed.size := by rw [I.lsize]; exact hi
              simpa [this] using hl
            · have := hok.less i _ ho e he hb
              exact ih e.on (by omega) (by omega)
          rw [hr] at hmem
          cases hmem
    have all' : ∀ i, i < ops.size → listed.getD i false = true := fun i hi => all (i + 1) i (by omega) hi
    have hu : ∀ j, listed.getD j false = true → (phi j).isSome = true → u j = u j := fun _ _ _ => rfl
    have hend := stAs_walk h0 u ops.size (Nat.le_refl _)
    have hn : ops.toList.drop ops.size = [] := List.drop_eq_nil_of_le (by simp)
    rw [hn] at hend
    unfold wpAs at hend
    have he := hend w I.world (holds_st u ops.size fun j oj φ hj hoj hp hw => I.act u hu j oj φ hoj (all' j hj) hp hw)
    have hfr : a = (stAs P ops C phi fx Q a0 u ops.size).1 := by
      have hs := I.size.trans (stAs_size (P := P) (ops := ops) (C := C) (phi := phi) (fx := fx) (Q := Q) a0 u ops.size).symm
      have hd := I.defers.trans (stAs_defers (P := P) (ops := ops) (C := C) (phi := phi) (fx := fx) (Q := Q) a0 u ops.size).symm
      have ht : ∀ t, a.tmps.getD t undef = (stAs P ops C phi fx Q a0 u ops.size).1.tmps.getD t undef := by
        intro t
        by_cases hj : ∃ (j : Nat) (o' : Oper), ops[j]? = some o' ∧ o'.dst = some t
        · obtain ⟨j, o', ho', hd'⟩ := hj
          have hjl := (Array.getElem?_eq_some_iff.1 ho').1
          rw [I.new j o' t ho' (all' j hjl) hd', stAs_at hok u ho' hd' ops.size hjl, I.val u hu j (all' j hjl)]
        · rw [I.old t (fun k ok hk hdk => absurd ⟨k, ok, hk, hdk⟩ hj), stAs_old a0 u t ops.size (fun k ok _ hk hdk => hj ⟨k, ok, hk, hdk⟩)]
      generalize (stAs P ops C phi fx Q a0 u ops.size).1 = b at *
      obtain ⟨at_, ad⟩ := a
      obtain ⟨bt, bd⟩ := b
      simp only at hs hd ht
      subst hd
      have : at_ = bt := by
        apply Array.ext hs
        intro k h1 h2
        have := ht k
        simpa [Array.getD, h1, h2] using this
      rw [this]
    rw [hfr]
    exact hQ _ _ he
  intro fuel
  induction fuel with
  | zero =>
    intro listed u a w hl I
    have hr : Region.ready .any ops listed = [] := by
      rw [List.eq_nil_iff_forall_not_mem]
      intro i hi
      obtain ⟨hun, o, ho, _⟩ := mem_ready.1 hi
      have hlt := (Array.getElem?_eq_some_iff.1 ho).1
      have hil : listed.getD i false = false := by
        have : i < listed.size := by rw [I.lsize]; exact hlt
        simpa [this] using hun
      have := left_set hlt I.lsize hil
      omega
    exact ⟨hr, fin listed u a w I hr⟩
  | succ fuel ih =>
    intro listed u a w hl I
    refine ⟨fun hr => fin listed u a w I hr, fun i hi => ?_⟩
    have hlt : i < ops.size := by
      obtain ⟨_, o, ho, _⟩ := mem_ready.1 hi
      exact (Array.getElem?_eq_some_iff.1 ho).1
    have hil : listed.getD i false = false := by
      have h1 := (mem_ready.1 hi).1
      have : i < listed.size := by rw [I.lsize]; exact hlt
      simpa [this] using h1
    refine wpOp_mono (fun a' w' ⟨u', I'⟩ => ih _ u' a' w' ?_ I') (I.step hok h0 hCb hst hi)
    have := left_set hlt I.lsize hil
    omega
end

/-- THE LAW: a region that draws its order, walked once. -/
theorem wp_region_fx {id : Nat} {l : List Oper} {a : Act} {w : World} {Q' : Exit → Act → World → Prop} (hm : P.follows .mixedOrders = true) (C : World → Prop) (phi : Nat → Option (Value → World → Prop)) (fx : Nat → Option Value) (hok : okAs l.toArray a.tmps.size = true)
    (hC : C w.drew) (hCb : ∀ w w', C w → Below w.heap.size w w' → C w') (hst : ∀ (j : Nat) (φ : Value → World → Prop) (x : Value) (w w' : World), phi j = some φ → φ x w → Below w.heap.size w w' → φ x w')
    (h : wpAs P l.toArray C phi fx (fun a w => Q' .normal a w) 0 l a []) : (Code.region id l.toArray true).wp P Q' a w := by
  refine wp_region_any hm ?_
  have hsz : (Array.replicate l.toArray.size false).size = l.toArray.size := by simp
  have hg : ∀ i, (Array.replicate l.toArray.size false).getD i false = false := fun i => by
    by_cases hi : i < l.toArray.size
    · simp [Array.getD]
    · simp [Array.getD]
  refine wpAny_of_as (a0 := a) (ok_of hok) (by simpa using h) hCb hst (fun _ _ h => h) _ _ (fun _ => undef) a w.drew ?_ ⟨hsz, rfl, rfl, ?_, ?_, fun _ _ => rfl, hC, ?_, ?_⟩
  · unfold left
    exact Nat.le_trans (List.length_filter_le _ _) (by simp)
  · intro i o _ hl
    rw [hg i] at hl
    cases hl
  · intro i o d _ hl
    rw [hg i] at hl
    cases hl
  · intro c _ i hl
    rw [hg i] at hl
    cases hl
  · intro c _ i o φ _ hl
    rw [hg i] at hl
    cases hl
end

/-! ### Steps -/
theorem does_enter {P : Program} {ρ : Operand → Value} {o : Oper} {w : World} {R : Value → World → Prop} {f : FuncId} {args : Array Value} (h : (execOp ρ o).run P w = .ok (.enter f args) w) (hc : Calls P f args w (fun e w' => ∃ v, e = .returned v ∧ R v w')) : doesUpon P R ((execOp ρ o).run P w) := by
  rw [h]
  exact hc
end Go.Proofs.YtdaidhbmfocodaaGreat

/-
  A region that draws its order, whose last operation waits for all others (a store at the end): the others in whatever order, then that one. No program, no condition of its own.
-/
namespace Go.Proofs.YtdaidhbmfocodaaGreat
open Go.RowKit

section
variable {P : Program} {Q Q' : Exit → Act → World → Prop}
theorem wp_mono_exits (hQ : ∀ e a w, e ≠ .normal → Q e a w → Q' e a w) {o : Oper} {a : Act} {w : World} {K : Act → World → Prop} (hh : o.wp P a w K Q) : o.wp P a w K Q' := by
  unfold Oper.wp at *
  generalize (execOp a.eval o).run P w = r at *
  have hout : LetsOut Q → LetsOut Q' := fun ⟨a, w, h⟩ => ⟨a, w, hQ _ _ _ (by simp) h⟩
  cases r with
  | ok n w' =>
    cases n <;> simp only [Oper.upon] at hh ⊢ <;>
      first
        | exact hh
        | exact Calls.mono hh (fun e w'' he => by cases e <;> first | exact he | exact hQ _ _ _ (by simp) he | exact hout he)
        | exact Rows.mono hh (fun _ _ he => he)
  | halt x w' => cases x <;> simp only [Oper.upon] at hh ⊢ <;> first | exact hh | exact hQ _ _ _ (by simp) hh
/-- What may come up before the last one. -/
def preQ (P : Program) (ops : Array Oper) (m : Nat) (Q : Exit → Act → World → Prop) : Exit → Act → World → Prop
  | .normal, a, w => wpOp P ops Q m (fun a' w' => Q .normal a' w') a w
  | e, a, w => Q e a w
theorem preQ_exit {ops : Array Oper} {m : Nat} {e : Exit} {a : Act} {w : World} (he : e ≠ .normal) : preQ P ops m Q e a w = Q e a w := by
  cases e <;> first | rfl | exact absurd rfl he

/-- Looked at: each operation leans on earlier ones alone, and each but the last is leaned on by a later one. -/
def okLast (ops : Array Oper) : Bool :=
  ((List.range ops.size).all fun i => match ops[i]? with
    | none => true
    | some o => (o.after.all fun e => !Region.binds .any e || decide (e.on < i)) && (match o.guard with | some (g, _) => decide (g < i) | none => true) &&
        (decide (i + 1 = ops.size) || (List.range ops.size).any fun j => decide (i < j) && leans ops j i))

structure OkLast (ops : Array Oper) : Prop where
  less : ∀ (i : Nat) (o : Oper), ops[i]? = some o → ∀ e ∈ o.after, Region.binds .any e = true → e.on < i
  guard : ∀ (i : Nat) (o : Oper) (g : Nat) (b : Bool), ops[i]? = some o → o.guard = some (g, b) → g < i
  used : ∀ (i : Nat), i + 1 < ops.size → ∃ j, i < j ∧ j < ops.size ∧ leans ops j i = true
theorem okLast_of {ops : Array Oper} (h : okLast ops = true) : OkLast ops := by
  unfold okLast at h
  rw [List.all_eq_true] at h
  have hl : ∀ {i : Nat} {o : Oper}, ops[i]? = some o → i < ops.size := fun ho => (Array.getElem?_eq_some_iff.1 ho).1
  refine ⟨fun i o ho e he hb => ?_, fun i o g b ho hg => ?_, fun i hi => ?_⟩
  · have h1 := h i (List.mem_range.2 (hl ho))
    simp only [ho, Bool.and_eq_true] at h1
    have := Array.all_eq_true_iff_forall_mem.1 h1.1.1 e he
    simpa [hb] using this
  · have h1 := h i (List.mem_range.2 (hl ho))
    simp only [ho, Bool.and_eq_true, hg] at h1
    simpa using h1.1.2
  · have ho : ops[i]? = some (ops[i]'(by omega)) := Array.getElem?_eq_getElem (by omega)
    have h1 := h i (List.mem_range.2 (by omega))
    simp only [ho, Bool.and_eq_true, Bool.or_eq_true, decide_eq_true_eq] at h1
    rcases h1.2 with h2 | h2
    · omega
    · obtain ⟨j, hj, h3⟩ := List.any_eq_true.1 h2
      simp only [Bool.and_eq_true, decide_eq_true_eq] at h3
      exact ⟨j, h3.1, List.mem_range.1 hj, h3.2⟩

theorem snoc_get {l : List Oper} {o : Oper} {i : Nat} (hi : i < l.length) : (l ++ [o]).toArray[i]? = l.toArray[i]? := by simp [List.getElem?_append_left hi]
theorem snoc_last {l : List Oper} {o : Oper} : (l ++ [o]).toArray[l.length]? = some o := by simp
theorem push_get {b : Array Bool} {c d : Bool} {i : Nat} (hi : i < b.size) : (b.push c).getD i d = b.getD i d := by
  simp only [Array.getD_eq_getD_getElem?, Array.getElem?_push_lt hi]
  rw [Array.getElem?_eq_getElem hi]
theorem push_get_last {b : Array Bool} {c d : Bool} : (b.push c).getD b.size d = c := by simp
theorem push_set {b : Array Bool} {c d : Bool} {i : Nat} (hi : i < b.size) : (b.push c).setIfInBounds i d = (b.setIfInBounds i d).push c := by
  apply Array.ext_getElem?
  intro k
  by_cases hk : k < b.size
  · by_cases hki : i = k
    · subst hki
      have e : (b.setIfInBounds i d).size = b.size := by simp
      rw [Array.getElem?_push, e, if_neg (Nat.ne_of_lt hi)]
      simp [hi, Nat.lt_succ_of_lt hi]
    · simp [Array.getElem?_push, hki, Nat.ne_of_lt hk]
  · by_cases hk2 : k = b.size
    · subst hk2
      have : ¬ i = b.size := by omega
      have e : (b.setIfInBounds i d).size = b.size := by simp
      rw [Array.getElem?_setIfInBounds_ne this, Array.getElem?_push, Array.getElem?_push, e]
      simp
    · have h1 : ¬ i = k := by omega
      simp [Array.getElem?_push, h1, hk2]

theorem wpAny_snoc {l : List Oper} {o : Oper} (hok : OkLast (l ++ [o]).toArray) : ∀ (fuel : Nat) (listed : Array Bool) (a : Act) (w : World), listed.size = l.length →
    (∀ (i : Nat) (oi : Oper), l.toArray[i]? = some oi → listed.getD i false = true → ∀ e ∈ oi.after, Region.binds .any e = true → listed.getD e.on false = true) →
    wpAny P .any l.toArray (preQ P (l ++ [o]).toArray l.length Q) fuel listed a w → wpAny P .any (l ++ [o]).toArray Q (fuel + 1) (listed.push false) a w := by
  have hsize : (l ++ [o]).toArray.size = l.length + 1 := by simp
  -- if the last may come up, all others have
  have all_of_last : ∀ (listed : Array Bool), listed.size = l.length → (∀ (i : Nat) (oi : Oper), l.toArray[i]? = some oi → listed.getD i false = true → ∀ e ∈ oi.after, Region.binds .any e = true → listed.getD e.on false = true) →
      (∀ e ∈ o.after, Region.binds .any e = true → listed.getD e.on false = true) → ∀ i, i < l.length → listed.getD i false = true := by
    intro listed hs hcl hlast
    have key : ∀ k i, l.length - i ≤ k → i < l.length → listed.getD i false = true := by
      intro k
      induction k with
      | zero => intro i h1 h2; omega
      | succ k ih =>
        intro i h1 h2
        obtain ⟨j, hij, hj, hle⟩ := hok.used i (by rw [hsize]; omega)
        rw [hsize] at hj
        by_cases hjl : j < l.length
        · obtain ⟨e, he, hb, rfl⟩ := leans_spec (ops := (l ++ [o]).toArray) (o := l[j]) (by rw [snoc_get hjl]; simp [hjl]) hle
          exact hcl j _ (by simp [hjl]) (ih j (by omega) hjl) e he hb
        · obtain rfl : j = l.length := by omega
          obtain ⟨e, he, hb, rfl⟩ := leans_spec (ops := (l ++ [o]).toArray) (o := o) snoc_last hle
          exact hlast e he hb
    exact fun i hi => key _ i (Nat.le_refl _) hi
  -- what may come up
  have ready_low : ∀ (listed : Array Bool), listed.size = l.length → ∀ i, i < l.length → (i ∈ Region.ready .any (l ++ [o]).toArray (listed.push false) ↔ i ∈ Region.ready .any l.toArray listed) := by
    intro listed hs i hi
    rw [mem_ready, mem_ready, push_get (by omega), snoc_get hi]
    refine and_congr_right fun _ => exists_congr fun oi => and_congr_right fun ho => ?_
    refine forall_congr' fun e => forall_congr' fun he => forall_congr' fun hb => ?_
    have := hok.less i oi (by rw [snoc_get hi]; exact ho) e he hb
    rw [push_get (by omega)]
  have ready_last : ∀ (listed : Array Bool), listed.size = l.length → (l.length ∈ Region.ready .any (l ++ [o]).toArray (listed.push false) ↔ ∀ e ∈ o.after, Region.binds .any e = true → listed.getD e.on false = true) := by
    intro listed hs
    rw [mem_ready, ← hs, push_get_last, hs, snoc_last]
    constructor
    · rintro ⟨_, o', ho', h⟩ e he hb
      cases ho'
      have := hok.less _ o snoc_last e he hb
      have h2 := h e he hb
      rwa [push_get (by omega)] at h2
    · intro h
      refine ⟨rfl, o, rfl, fun e he hb => ?_⟩
      have := hok.less _ o snoc_last e he hb
      rw [push_get (by omega)]
      exact h e he hb
  have ready_lt : ∀ (listed : Array Bool) i, i ∈ Region.ready .any (l ++ [o]).toArray listed → i ≤ l.length := by
    intro listed i hi
    obtain ⟨_, o', ho', _⟩ := mem_ready.1 hi
    have := (Array.getElem?_eq_some_iff.1 ho').1
    rw [hsize] at this
    omega
  have ready_full : ∀ (listed : Array Bool), listed.size = l.length → (∀ i, i < l.length → listed.getD i false = true) → Region.ready .any (l ++ [o]).toArray ((listed.push false).setIfInBounds l.length true) = [] := by
    intro listed hs hall
    rw [List.eq_nil_iff_forall_not_mem]
    intro i hi
    have hle := ready_lt _ i hi
    obtain ⟨hun, _⟩ := mem_ready.1 hi
    by_cases hil : i < l.length
    · rw [getD_set_ne true (by omega), push_get (by omega)] at hun
      have h1 := hall i hil
      simp only [Array.getD_eq_getD_getElem?, Array.getElem?_eq_getElem (show i < listed.size by omega)] at hun h1
      simp at hun h1
      rw [h1] at hun
      cases hun
    · obtain rfl : i = l.length := by omega
      simp [hs] at hun
  have last_step : ∀ (fuel : Nat) (listed : Array Bool) (a : Act) (w : World), listed.size = l.length → (∀ i, i < l.length → listed.getD i false = true) → preQ P (l ++ [o]).toArray l.length Q .normal a w →
      wpOp P (l ++ [o]).toArray Q l.length (wpAny P .any (l ++ [o]).toArray Q fuel ((listed.push false).setIfInBounds l.length true)) a w := by
    intro fuel listed a w hs hall h
    refine wpOp_mono (fun a' w' hq => ?_) h
    have hr := ready_full listed hs hall
    cases fuel with
    | zero => exact ⟨hr, hq⟩
    | succ f => exact ⟨fun _ => hq, fun i hi => by rw [hr] at hi; cases hi⟩
  have none_ready : ∀ (listed : Array Bool), listed.size = l.length → (∀ (i : Nat) (oi : Oper), l.toArray[i]? = some oi → listed.getD i false = true → ∀ e ∈ oi.after, Region.binds .any e = true → listed.getD e.on false = true) →
      Region.ready .any (l ++ [o]).toArray (listed.push false) ≠ [] := by
    intro listed hs hcl hnil
    have all : ∀ k i, i < k → i < l.length → listed.getD i false = true := by
      intro k
      induction k with
      | zero => intro i h; omega
      | succ k ih =>
        intro i hik hi
        cases hlst : listed.getD i false with
        | true => rfl
        | false =>
          have hmem : i ∈ Region.ready .any (l ++ [o]).toArray (listed.push false) := by
            refine (ready_low listed hs i hi).2 (mem_ready.2 ⟨?_, l[i], by simp [hi], fun e he hb => ?_⟩)
            · have : i < listed.size := by omega
              simp only [Array.getD_eq_getD_getElem?, Array.getElem?_eq_getElem this] at hlst ⊢
              simpa using hlst
            · have := hok.less i l[i] (by rw [snoc_get hi]; simp [hi]) e he hb
              exact ih e.on (by omega) (by omega)
          rw [hnil] at hmem
          cases hmem
    have hmem := (ready_last listed hs).2 fun e he hb => by
      have := hok.less _ o snoc_last e he hb
      exact all (e.on + 1) e.on (by omega) this
    rw [hnil] at hmem
    cases hmem
  have wpOp_low : ∀ (i : Nat) (K : Act → World → Prop) (a : Act) (w : World), i < l.length → wpOp P l.toArray (preQ P (l ++ [o]).toArray l.length Q) i K a w → wpOp P (l ++ [o]).toArray Q i K a w := by
    intro i K a w hi h
    have ho : l.toArray[i]? = some l[i] := by simp [hi]
    unfold wpOp at h ⊢
    rw [snoc_get hi, ho]
    rw [ho] at h
    simp only at h ⊢
    have hw : Region.wanted l[i] (yielded (l ++ [o]).toArray a.tmps) = Region.wanted l[i] (yielded l.toArray a.tmps) := by
      unfold Region.wanted
      cases hg : l[i].guard with
      | none => rfl
      | some gb =>
        obtain ⟨g, b⟩ := gb
        have hgl := hok.guard i l[i] g b (by rw [snoc_get hi]; exact ho) hg
        have : yielded (l ++ [o]).toArray a.tmps g = yielded l.toArray a.tmps g := by
          unfold yielded
          rw [snoc_get (by omega)]
        simp only [this]
    rw [hw]
    split
    · rename_i hwt
      rw [if_pos hwt] at h
      refine h.imp (wp_mono_exits fun e a w he hq => by rwa [preQ_exit he] at hq) (fun hx => ⟨hx.1, ?_⟩)
      obtain ⟨a1, w1, h1⟩ := hx.2
      exact ⟨a1, w1, by rwa [preQ_exit (by simp)] at h1⟩
    · rename_i hwt
      rwa [if_neg hwt] at h
  intro fuel
  induction fuel with
  | zero =>
    intro listed a w hs hcl h
    refine ⟨fun hn => absurd hn (none_ready listed hs hcl), fun i hi => ?_⟩
    have hle := ready_lt _ i hi
    by_cases hil : i < l.length
    · have := (ready_low listed hs i hil).1 hi
      rw [h.1] at this
      cases this
    · obtain rfl : i = l.length := by omega
      exact last_step 0 listed a w hs (all_of_last listed hs hcl ((ready_last listed hs).1 hi)) h.2
  | succ fuel ih =>
    intro listed a w hs hcl h
    refine ⟨fun hn => absurd hn (none_ready listed hs hcl), fun i hi => ?_⟩
    have hle := ready_lt _ i hi
    by_cases hil : i < l.length
    · have hr := (ready_low listed hs i hil).1 hi
      have h2 := wpOp_low i _ a w hil (h.2 i hr)
      obtain ⟨hun, oi, ho, haft⟩ := mem_ready.1 hr
      refine wpOp_mono (fun a' w' hk => ?_) h2
      rw [push_set (by omega)]
      refine ih (listed.setIfInBounds i true) a' w' (by simpa using hs) (fun j oj hoj hj e he hb => ?_) hk
      have hje : ∀ k, listed.getD k false = true → (listed.setIfInBounds i true).getD k false = true := by
        intro k hk
        by_cases hki : i = k
        · subst hki
          have : i < listed.size := by omega
          simp [this]
        · rw [getD_set_ne false hki]
          exact hk
      by_cases hji : i = j
      · subst hji
        rw [ho] at hoj
        cases hoj
        exact hje _ (haft e he hb)
      · rw [getD_set_ne false hji] at hj
        exact hje _ (hcl j oj hoj hj e he hb)
    · obtain rfl : i = l.length := by omega
      have hall := all_of_last listed hs hcl ((ready_last listed hs).1 hi)
      have hnil : Region.ready .any l.toArray listed = [] := by
        rw [List.eq_nil_iff_forall_not_mem]
        intro j hj
        obtain ⟨hun, oj, hoj, _⟩ := mem_ready.1 hj
        have hjl : j < l.length := by have := (Array.getElem?_eq_some_iff.1 hoj).1; simpa using this
        have h1 := hall j hjl
        have : j < listed.size := by omega
        simp only [Array.getD_eq_getD_getElem?, Array.getElem?_eq_getElem this] at hun h1
        simp at hun h1
        rw [h1] at hun
        cases hun
      exact last_step _ listed a w hs hall (h.1 hnil)

end
section
variable {P : Program} {Q Q' : Exit → Act → World → Prop}
theorem wpOp_mono_post {ops : Array Oper} {i : Nat} {K : Act → World → Prop} {a : Act} {w : World} (hQ : ∀ e a w, Q e a w → Q' e a w) (h : wpOp P ops Q i K a w) : wpOp P ops Q' i K a w := by
  have hout : LetsOut Q → LetsOut Q' := fun ⟨a, w, h⟩ => ⟨a, w, hQ _ _ _ h⟩
  unfold wpOp at h ⊢
  cases ho : ops[i]? with
  | none => rw [ho] at h; exact h
  | some o =>
    rw [ho] at h
    simp only at h ⊢
    by_cases hw : Region.wanted o (yielded ops a.tmps) = true
    · rw [if_pos hw] at h ⊢
      exact h.imp (wp_mono_exits fun e a w _ => hQ e a w) (fun hx => ⟨hx.1, hout hx.2⟩)
    · rw [if_neg hw] at h ⊢
      exact h
theorem wpAny_mono_post {ops : Array Oper} (hQ : ∀ e a w, Q e a w → Q' e a w) : ∀ (fuel : Nat) (listed : Array Bool) (a : Act) (w : World), wpAny P .any ops Q fuel listed a w → wpAny P .any ops Q' fuel listed a w
  | 0, _, _, _, h => ⟨h.1, hQ _ _ _ h.2⟩
  | fuel + 1, _, _, _, h => ⟨fun hr => hQ _ _ _ (h.1 hr), fun i hi => wpOp_mono (fun a' w' hk => wpAny_mono_post hQ fuel _ a' w' hk) (wpOp_mono_post hQ (h.2 i hi))⟩
/-- The trailing operations, one after another. -/
def tailPost (P : Program) (ops : Array Oper) (Q : Exit → Act → World → Prop) (tail : List Oper) : Exit → Act → World → Prop
  | .normal, a, w => wpList P ops Q tail a w
  | e, a, w => Q e a w
theorem tailPost_exit {ops : Array Oper} {tail : List Oper} {e : Exit} {a : Act} {w : World} (he : e ≠ .normal) : tailPost P ops Q tail e a w = Q e a w := by
  cases e <;> first | rfl | exact absurd rfl he
theorem wpAny_tail (ops : Array Oper) : ∀ (tail l : List Oper), (∀ j, 0 < j → j ≤ tail.length → OkLast (l ++ tail.take j).toArray) → (∀ o ∈ tail, o.guard = none) → ∀ (a : Act) (w : World),
    wpAny P .any l.toArray (tailPost P ops Q tail) l.length (Array.replicate l.length false) a w → wpAny P .any (l ++ tail).toArray Q (l.length + tail.length) (Array.replicate (l.length + tail.length) false) a w
  | [], l, _, _, a, w, h => by
    rw [List.append_nil]
    exact wpAny_mono_post (fun e a w hq => by cases e <;> exact hq) _ _ _ _ h
  | o :: rest, l, hok, hgd, a, w, h => by
    have hgo := hgd o (List.mem_cons.2 (.inl rfl))
    have h1 : wpAny P .any l.toArray (preQ P (l ++ [o]).toArray l.length (tailPost P ops Q rest)) l.length (Array.replicate l.length false) a w := by
      refine wpAny_mono_post (fun e a w hq => ?_) _ _ _ _ h
      by_cases he : e = .normal
      · subst he
        show wpOp P (l ++ [o]).toArray (tailPost P ops Q rest) l.length (fun a' w' => wpList P ops Q rest a' w') a w
        have hq' : wpList P ops Q (o :: rest) a w := hq
        unfold wpList at hq'
        unfold wpOp
        rw [snoc_last]
        have hw : ∀ ops', Region.wanted o (yielded ops' a.tmps) = true := fun ops' => by simp [Region.wanted, hgo]
        simp only [hw, if_true] at hq' ⊢
        refine hq'.imp (wp_mono_exits fun e a w he hq => by rwa [tailPost_exit he]) (fun hx => ⟨hx.1, ?_⟩)
        obtain ⟨a1, w1, h1⟩ := hx.2
        exact ⟨a1, w1, h1⟩
      · rw [preQ_exit he, tailPost_exit he]
        rwa [tailPost_exit he] at hq
    have hg : ∀ i, (Array.replicate l.length false).getD i false = false := fun i => by
      by_cases hi : i < l.length
      · simp [Array.getD]
      · simp [Array.getD]
    have h2 := wpAny_snoc (hok 1 Nat.one_pos (by simp)) l.length (Array.replicate l.length false) a w (by simp) (fun i oi _ hi => by rw [hg i] at hi; cases hi) h1
    have e1 : (Array.replicate l.length false).push false = Array.replicate (l ++ [o]).length false := by rw [List.length_append, List.length_singleton, Array.replicate_succ]
    rw [e1] at h2
    have e2 : l.length + 1 = (l ++ [o]).length := by simp
    rw [e2] at h2
    have ih := wpAny_tail ops rest (l ++ [o]) (fun j h0 hj => by
      have := hok (j + 1) (by omega) (by simpa using hj)
      rw [List.take_succ_cons] at this
      simpa using this) (fun o' ho' => hgd o' (List.mem_cons.2 (.inr ho'))) a w h2
    have e3 : l ++ o :: rest = l ++ [o] ++ rest := by simp
    have e4 : l.length + (o :: rest).length = (l ++ [o]).length + rest.length := by simp; omega
    rw [e3, e4]
    exact ih
/-- Looked at: behind place m each operation waits for all ahead of it. -/
def okTails (ops : Array Oper) (m : Nat) : Bool :=
  ((List.range (ops.size - m)).all fun j => okLast (ops.toList.take (m + (j + 1))).toArray) && (ops.toList.drop m).all fun o => o.guard.isNone
/-- THE LAW: the operations ahead of place m in whatever order, the others one after another. -/
theorem wp_region_tails {id : Nat} {ops : Array Oper} {a : Act} {w : World} (hm : P.follows .mixedOrders = true) (m : Nat) (C : World → Prop) (phi : Nat → Option (Value → World → Prop)) (fx : Nat → Option Value) (hms : m ≤ ops.size) (hok : okAs (ops.toList.take m).toArray a.tmps.size = true) (hlast : okTails ops m = true)
    (hC : C w.drew) (hCb : ∀ w w', C w → Below w.heap.size w w' → C w') (hst : ∀ (j : Nat) (φ : Value → World → Prop) (x : Value) (w w' : World), phi j = some φ → φ x w → Below w.heap.size w w' → φ x w')
    (h : wpAs P (ops.toList.take m).toArray C phi fx (fun a w => wpList P ops Q (ops.toList.drop m) a w) 0 (ops.toList.take m) a []) : (Code.region id ops true).wp P Q a w := by
  have e : (ops.toList.take m ++ ops.toList.drop m).toArray = ops := by rw [List.take_append_drop]
  have hl1 : (ops.toList.take m).length = m := by simp; omega
  have hl2 : (ops.toList.take m).length + (ops.toList.drop m).length = ops.size := by simp; omega
  refine wp_region_any hm ?_
  unfold okTails at hlast
  rw [Bool.and_eq_true, List.all_eq_true, List.all_eq_true] at hlast
  have key := wpAny_tail (P := P) (Q := Q) ops (ops.toList.drop m) (ops.toList.take m) (fun j h0 hj => by
    have hj' : j ≤ ops.size - m := by simpa using hj
    have := hlast.1 (j - 1) (List.mem_range.2 (by omega))
    rw [show m + (j - 1 + 1) = m + j by omega, List.take_add] at this
    exact okLast_of this) (fun o ho => by simpa using hlast.2 o ho) a w.drew
  rw [hl2, e] at key
  refine key ?_
  rw [hl1]
  have hg : ∀ i, (Array.replicate m false).getD i false = false := fun i => by
    by_cases hi : i < m
    · simp [Array.getD]
    · simp [Array.getD]
  have hsz : (ops.toList.take m).toArray.size = m := by simpa using hl1
  have h' : wpAs P (ops.toList.take m).toArray C phi fx (fun a w => wpList P ops Q (ops.toList.drop m) a w) 0 (ops.toList.take m).toArray.toList a [] := h
  refine wpAny_of_as (Q := fun a w => wpList P ops Q (ops.toList.drop m) a w) (a0 := a) (ok_of hok) h' hCb hst (fun a w hq => hq) _ _ (fun _ => undef) a w.drew ?_ ⟨by rw [hsz]; simp, rfl, rfl, ?_, ?_, fun _ _ => rfl, hC, ?_, ?_⟩
  · unfold left
    exact Nat.le_trans (List.length_filter_le _ _) (by simp; omega)
  · intro i o _ hl
    rw [hg i] at hl
    cases hl
  · intro i o d _ hl
    rw [hg i] at hl
    cases hl
  · intro c _ i hl
    rw [hg i] at hl
    cases hl
  · intro c _ i o φ _ hl
    rw [hg i] at hl
    cases hl
end
theorem own_block {w : World} {base n size cap : Nat} {t : TypeId} {ad : Addr} {xs : List Value} (h : w.ownsRow base t size (.slice (some ad) n cap) n xs) : base ≤ ad.block ∧ ad.block < w.heap.size ∧ n ≤ cap ∧ cap ≤ 9223372036854775807 := by
  rcases h.2 with ⟨e, _⟩ | ⟨g, cap', cur, e, hb, hg, hnc, hm, _⟩
  · cases e
  · cases e
    exact ⟨hb, (Array.getElem?_eq_some_iff.1 hg).1, hnc, by unfold maxLen at hm; exact hm⟩
theorem own_below {w w' : World} {base n size : Nat} {t : TypeId} {v : Value} {xs : List Value} (h : w.ownsRow base t size v n xs) (hb : Below w.heap.size w w') : w'.ownsRow base t size v n xs := by
  refine ⟨h.1, ?_⟩
  rcases h.2 with h | ⟨g, cap', cur, e, hb', hg, r⟩
  · exact .inl h
  · exact .inr ⟨g, cap', cur, e, hb', by rw [hb.block g (Array.getElem?_eq_some_iff.1 hg).1]; exact hg, r⟩
theorem own_any {w : World} {base n size : Nat} {t : TypeId} {v : Value} {xs : List Value} (h : w.ownsRow base t size v n xs) : ∃ A c, v = .slice A n c ∧ n ≤ c ∧ c ≤ 9223372036854775807 ∧ v.ownBlock = A.map (·.block) ∧ (0 < n → ∃ ad, A = some ad) := by
  rcases h.2 with ⟨e, e2⟩ | ⟨g, cap', cur, e, hb, hg, hnc, hm, _⟩
  · subst e2
    exact ⟨none, 0, e, by omega, by omega, by subst e; rfl, fun h => by omega⟩
  · exact ⟨_, _, e, hnc, by unfold maxLen at hm; exact hm, by subst e; rfl, fun _ => ⟨_, rfl⟩⟩
theorem grow_put {w0 a : World} {row : Option Nat} (h : w0.grownBy a row) {p : Addr} (hp : row = some p.block) (u : Value) : w0.grownBy (a.setCell p u) row :=
  ⟨h.os, h.tape, h.output, by simpa using h.size, fun k hk hne => (Below.heap_setCell _ _ _ _ (fun e => hne (by rw [hp, e]))).trans (h.block k hk hne)⟩
theorem grow_refl (w : World) (row : Option Nat) : w.grownBy w row := ⟨rfl, rfl, rfl, Nat.le_refl _, fun _ _ _ => rfl⟩
theorem own_not {w : World} {b s n : Nat} {t t' : TypeId} {v : Value} {xs : List Value} {g : Nat} {cs : Array Value} {fr : Nat × Nat} (h : w.ownsRow b t s v n xs) (hg : w.heap[g]? = some (.cells cs t' fr)) (ht : t ≠ t') : some g ≠ v.ownBlock := by
  rcases h.2 with ⟨e, _⟩ | ⟨g', cap', cur', e, _, hg', _⟩
  · subst e
    simp [Value.ownBlock]
  · subst e
    simp only [Value.ownBlock, ne_eq, Option.some.injEq]
    rintro rfl
    rw [hg'] at hg
    cases hg
    exact ht rfl
theorem own_low {w : World} {base base' n size : Nat} {t : TypeId} {v : Value} {xs : List Value} (h : w.ownsRow base t size v n xs) (hb : base' ≤ base) : w.ownsRow base' t size v n xs := by
  refine ⟨h.1, h.2.imp id ?_⟩
  rintro ⟨g, cap, cur, h1, h2, h3⟩
  exact ⟨g, cap, cur, h1, Nat.le_trans hb h2, h3⟩
/-- A block of two cells, both stored. -/
theorem put_two {W : World} {g : Nat} {a b u v : Value} {t : TypeId} (h : W.heap[g]? = some (.cells #[a, b] t (0, 0))) : ∃ W1, (W.setCell ⟨g, 0, none⟩ u).setCell ⟨g, 1, none⟩ v = W1 ∧ W1.heap[g]? = some (.cells #[u, v] t (0, 0)) ∧ W.grownBy W1 (some g) ∧ W1.heap.size = W.heap.size :=
  ⟨_, rfl, by simp [World.setCell, Array.getElem?_modify, h], grow_put (p := ⟨g, 1, none⟩) (grow_put (p := ⟨g, 0, none⟩) (grow_refl W (some g)) rfl u) rfl v, by simp⟩
/-- One of two cells stored. -/
theorem put_fst {W : World} {g : Nat} {a b u : Value} {t : TypeId} (h : W.heap[g]? = some (.cells #[a, b] t (0, 0))) : ∃ W1, W.setCell ⟨g, 0, none⟩ u = W1 ∧ W1.heap[g]? = some (.cells #[u, b] t (0, 0)) ∧ W.grownBy W1 (some g) ∧ W1.heap.size = W.heap.size :=
  ⟨_, rfl, by simp [World.setCell, Array.getElem?_modify, h], grow_put (p := ⟨g, 0, none⟩) (grow_refl W (some g)) rfl u, by simp⟩
theorem put_snd {W : World} {g : Nat} {a b u : Value} {t : TypeId} (h : W.heap[g]? = some (.cells #[a, b] t (0, 0))) : ∃ W1, W.setCell ⟨g, 1, none⟩ u = W1 ∧ W1.heap[g]? = some (.cells #[a, u] t (0, 0)) ∧ W.grownBy W1 (some g) ∧ W1.heap.size = W.heap.size :=
  ⟨_, rfl, by simp [World.setCell, Array.getElem?_modify, h], grow_put (p := ⟨g, 1, none⟩) (grow_refl W (some g)) rfl u, by simp⟩
theorem two_cells {W : World} {g : Nat} {a b : Value} {t : TypeId} (h : W.heap[g]? = some (.cells #[a, b] t (0, 0))) : W.cell? ⟨g, 0, none⟩ = some a ∧ W.cell? ⟨g, 1, none⟩ = some b ∧ (∀ o, W.frozen? ⟨g, o, none⟩ = false) ∧ g < W.heap.size :=
  ⟨by simp [World.cell?, h], by simp [World.cell?, h], fun o => by simp [World.frozen?, h], (Array.getElem?_eq_some_iff.1 h).1⟩
theorem grow_trans {a b c : World} {row : Option Nat} (h : a.grownBy b row) (h' : b.grownBy c row) : a.grownBy c row :=
  ⟨h'.os.trans h.os, h'.tape.trans h.tape, h'.output.trans h.output, Nat.le_trans h.size h'.size, fun k hk hne => (h'.block k (Nat.lt_of_lt_of_le hk h.size) hne).trans (h.block k hk hne)⟩
theorem grow_cell {w w' : World} {row : Option Nat} (h : w.grownBy w' row) {p : Addr} (hp : p.block < w.heap.size) (hne : some p.block ≠ row) : w'.cell? p = w.cell? p := World.cell?_of_block (h.block p.block hp hne)
theorem alloc_block {w : World} {k : Nat} {o x : Obj} (h : w.heap[k]? = some o) : (w.alloc x).heap[k]? = some o := (Below.heap_alloc w x k (Array.getElem?_eq_some_iff.1 h).1).trans h
/-- A new box of two cells. -/
theorem box_pair (w : World) (a b : Value) (t : TypeId) : ∃ w1, w.alloc (.cells #[a, b] t) = w1 ∧ w1.cell? ⟨w.heap.size, 0, none⟩ = some a ∧ w1.cell? ⟨w.heap.size, 1, none⟩ = some b ∧ w1.heap.size = w.heap.size + 1 ∧ Below w.heap.size w w1 :=
  ⟨_, rfl, by go_simp, by go_simp, by simp, (Below.refl _ _).alloc (Nat.le_refl _) _⟩
theorem box_pair' (w : World) (a b : Value) (t : TypeId) : ∃ w1, w.alloc (.cells #[a, b] t) = w1 ∧ w1.heap[w.heap.size]? = some (.cells #[a, b] t (0, 0)) ∧ w1.heap.size = w.heap.size + 1 ∧ Below w.heap.size w w1 :=
  ⟨_, rfl, heap_alloc_new _ _, by simp, (Below.refl _ _).alloc (Nat.le_refl _) _⟩
theorem made_one (z : Value) (n : Nat) : (madeCells #[z] (n * 1)).toList = List.replicate n z := by
  have : madeCells #[z] (n * 1) = Array.replicate n z := by
    apply Array.ext
    · simp [madeCells]
    · intro i h1 h2
      simp [madeCells, Nat.mod_one]
  rw [this]
  simp
end Go.Proofs.YtdaidhbmfocodaaGreat

/-
  slices.Clone at slices of bytes, and at writes. Conditions: those that each lemma states.
-/
namespace Go.Proofs.YtdaidhbmfocodaaGreat
open Go.RowKit

/-- slices.Clone of bytes. -/
theorem clone_by (v : Value) (xs : List UInt8) (w : World) (hbig : xs.length ≤ 140737488355328) (h : rBy (Old w) w [v] xs) :
    Calls Tryz.prog 44 #[v] w fun e w' => ∃ u, e = .returned u ∧ rBy (New w.heap.size w') w' [u] xs ∧ Below w.heap.size w w' := by
  obtain ⟨A, cap, rfl, hl, hc, hb⟩ := rBy_byt (B := w.heap.size) (fun _ h => h) h
  refine (clone_any A xs.length cap xs (Lib.hid rfl) hbig w hb).mono ?_
  rintro e w' ⟨u, rfl, h1, h2⟩
  exact ⟨u, rfl, own_by h1, h2⟩

/-- The cells of a slice. -/
def Cells (w : World) (B : Nat) (A : Option Addr) (vs : List Value) : Prop := ∀ j v, vs[j]? = some v → ∃ ad, A = some ad ∧ ad.block < B ∧ w.cell? (ad.add j) = some v

theorem rows_info0 : (Tryz.prog.info? 27).map (fun i => (i.zero, i.size, i.bytes)) = some (some (.slice none 0 0), 1, 24) := by kernel_rfl
theorem wts_info0 : (Tryz.prog.info? 106).map (fun i => (i.zero, i.size, i.bytes)) = some (some (.agg #[.int .i64 0, .slice none 0 0]), 2, 32) := by kernel_rfl

end Go.Proofs.YtdaidhbmfocodaaGreat

/-
  The document's answers of layer 3: May, Check. Conditions: those that each lemma states.
-/
namespace Go.Proofs.YtdaidhbmfocodaaGreat
open Go.RowKit

/-- A disk's box: the world behind it, as a letter. -/
theorem box_disk (w : World) (a b : Value) : ∃ w0, w0 = w.alloc (.cells #[a, b] 26) ∧ w0.cell? ⟨w.heap.size, 0, none⟩ = some a ∧ w0.cell? ⟨w.heap.size, 1, none⟩ = some b ∧ w0.heap.size = w.heap.size + 1 ∧ Below w.heap.size w w0 ∧ (∀ o, w0.frozen? ⟨w.heap.size, o, none⟩ = false) :=
  ⟨_, rfl, by simp, by simp, by simp, balloc (Below.refl _ _) _, fun o => by unfold World.frozen?; rw [heap_alloc_new]; simp⟩

/-- A disk's box, and one box more. -/
theorem box_two (w : World) (a b : Value) (o : Array Value) (t : TypeId) : ∃ w2, (w.alloc (.cells #[a, b] 26)).alloc (.cells o t) = w2 ∧ w2.cell? ⟨w.heap.size, 0, none⟩ = some a ∧ w2.cell? ⟨w.heap.size, 1, none⟩ = some b ∧ w2.heap[w.heap.size + 1]? = some (.cells o t (0, 0)) ∧ w2.heap.size = w.heap.size + 2 ∧ Below w.heap.size w w2 := by
  refine ⟨_, rfl, by go_simp, by go_simp, ?_, by simp, ((Below.refl w.heap.size w).alloc (Nat.le_refl _) _).alloc (by simp) _⟩
  have := heap_alloc_new (w.alloc (.cells #[a, b] 26)) (.cells o t)
  rwa [World.size_alloc] at this

set_option maxRecDepth 100000 in
set_option maxHeartbeats 2000000 in
theorem may_any (v : Value) (d : Dk) (w : World) (h : Dsk (Old w) w v d) : Calls Tryz.prog 79 #[v] w fun e w' => e = .returned (.bool (mayB d)) ∧ Below w.heap.size w w' := by
  obtain ⟨A, c, B, c', rfl, l1, m1, l2, m2, hA, hB⟩ := h.open
  have HA := Lib.hid hA
  have HB := Lib.hid hB
  clear hA hB h
  obtain ⟨n, hn⟩ : ∃ n, d.1.length = n := ⟨_, rfl⟩
  obtain ⟨m, hm⟩ : ∃ m, d.2.length = m := ⟨_, rfl⟩
  rw [hn] at l1 ⊢
  rw [hm] at l2 ⊢
  replace hn := Lib.hid hn
  replace hm := Lib.hid hm
  obtain ⟨w0, e0, f1, f2, f3, hB1, _⟩ := box_disk w (.slice A n c) (.slice B m c')
  by_cases h1 : n = 256
  · by_cases h2 : m ≤ 4096
    · have h1' : ((n : Int) != 256) = false := by simp; omega
      replace h1 := Lib.hid h1
      replace f3 := Lib.hid f3
      go_enter Tryz.func79, Tryz.ntmps79
      go_upto_region 1 with fail
      rw [← e0]
      clear e0
      go_wp2_with fail
      go_loop [3] (fun i => ∃ k : Nat, k ≤ n ∧ i = .int .i64 k ∧ (d.1.take k).all byB = true) (fun i => n - (intOf i).toNat)
      case atStart => exact ⟨0, by omega, rfl, rfl⟩
      case round =>
        obtain ⟨k, hk, rfl, ha⟩ := hrel
        replace ha := Lib.hid ha
        by_cases hlt : k < n
        · obtain ⟨x, hx⟩ : ∃ x, d.1[k]? = some x := ⟨_, List.getElem?_eq_getElem (by rw [hn.out]; exact hlt)⟩
          replace hx := Lib.hid hx
          obtain ⟨ad, v, rfl, hok, hc, hby⟩ := HA.out k x hx.out
          obtain ⟨E, ce, rfl, _⟩ := rBy_open hby
          replace hc := (hB1.cell hok).trans hc
          by_cases hx8 : x.length = 128
          · replace hx8 := Lib.hid hx8
            have e8 : ((x.length : Int) != 128) = false := by rw [hx8.out]; rfl
            go_wp2_with fail
            go_round
            case rel => exact ⟨k + 1, by omega, by go_num, all_take ha.out hx.out (by simp [byB, hx8.out])⟩
            case measure => simp [intOf]; omega
          · have e8 : ((x.length : Int) != 128) = true := by simp; omega
            have hbad := Lib.hid (may_block hx.out hx8)
            go_wp2_with fail
            go_ret
            exact ⟨ret_bool hbad.out.symm, hB1⟩
        · have hge : n ≤ k := by omega
          have ha' : Hid (d.1.all byB = true) := Lib.hid (by have := ha.out; rwa [List.take_of_length_le (by rw [hn.out]; exact hge)] at this)
          clear ha
          go_wp2_with fail
          go_loop [4] (fun i => ∃ k : Nat, k ≤ m ∧ i = .int .i64 k ∧ (d.2.take k).all wtB = true) (fun i => m - (intOf i).toNat)
          case atStart => exact ⟨0, by omega, rfl, rfl⟩
          case round =>
            obtain ⟨k, hk, rfl, ha⟩ := hrel
            replace ha := Lib.hid ha
            by_cases hlt : k < m
            · obtain ⟨x, hx⟩ : ∃ x, d.2[k]? = some x := ⟨_, List.getElem?_eq_getElem (by rw [hm.out]; exact hlt)⟩
              replace hx := Lib.hid hx
              obtain ⟨ad, v, rfl, hok1, hok2, hc1, hc2, hby, _, _⟩ := HB.out k x hx.out
              obtain ⟨E, ce, rfl, _⟩ := rBy_open hby
              replace hc1 := (hB1.cell hok1).trans hc1
              replace hc2 := (hB1.cell hok2).trans hc2
              rw [add_next] at hc2
              by_cases t1 : x.1 < 0
              · have hbad := Lib.hid (may_wait hx.out (wtB_no (by omega)))
                go_wp2_with fail
                go_ret
                exact ⟨ret_bool hbad.out.symm, hB1⟩
              · by_cases t2 : 256 ≤ x.1
                · have hbad := Lib.hid (may_wait hx.out (wtB_no (by omega)))
                  go_wp2_with fail
                  go_ret
                  exact ⟨ret_bool hbad.out.symm, hB1⟩
                · by_cases hx8 : x.2.length = 128
                  · replace hx8 := Lib.hid hx8
                    have e8 : ((x.2.length : Int) != 128) = false := by rw [hx8.out]; rfl
                    have hall := Lib.hid (all_take ha.out hx.out (by simp [wtB, hx8.out]; omega))
                    go_wp2_with fail
                    go_round
                    case rel => exact ⟨k + 1, by omega, by go_num, hall.out⟩
                    case measure => simp [intOf]; omega
                  · have e8 : ((x.2.length : Int) != 128) = true := by simp; omega
                    have hbad := Lib.hid (may_wait hx.out (wtB_no (by omega)))
                    go_wp2_with fail
                    go_ret
                    exact ⟨ret_bool hbad.out.symm, hB1⟩
            · have hge2 : m ≤ k := by omega
              have hok := Lib.hid (may_mk (by rw [hn.out]; exact h1.out) (by rw [hm.out]; exact h2) ha'.out (by have := ha.out; rwa [List.take_of_length_le (by rw [hm.out]; exact hge2)] at this))
              go_wp2_with fail
              go_ret
              exact ⟨ret_bool hok.out.symm, hB1⟩
    · have h1' : ((n : Int) != 256) = false := by simp; omega
      replace h1 := Lib.hid h1
      have h2' : (4096 : Int) < m := by omega
      have hbad := Lib.hid (may_len2 (d := d) (by rw [hm.out]; omega))
      subst e0
      clear f1 f2 f3
      go_enter Tryz.func79, Tryz.ntmps79
      go_wp2_with fail
      go_ret
      exact ⟨ret_bool hbad.out.symm, hB1⟩
  · have h1' : ((n : Int) != 256) = true := by simp; omega
    have hbad := Lib.hid (may_len1 (d := d) (by rw [hn.out]; exact h1))
    subst e0
    clear f1 f2 f3
    go_enter Tryz.func79, Tryz.ntmps79
    go_wp2_with fail
    go_ret
    exact ⟨ret_bool hbad.out.symm, hB1⟩

end Go.Proofs.YtdaidhbmfocodaaGreat

/-
  The document's answers of layer 3: Great. Conditions: those that each lemma states.
-/
namespace Go.Proofs.YtdaidhbmfocodaaGreat
open Go.RowKit

def cap6 (n : Nat) : Int := if (1000000 : Int) < n then 1000000 else n
def sumB : List (List UInt8) → Int
  | [] => 0
  | x :: r => cap6 x.length + sumB r
def sumW : List Wt → Int
  | [] => 0
  | x :: r => cap6 x.2.length + sumW r
theorem cap6_nonneg (n : Nat) : 0 ≤ cap6 n ∧ cap6 n ≤ 1000000 := by unfold cap6; split <;> omega
theorem sumB_snoc (xs : List (List UInt8)) (x : List UInt8) : sumB (xs ++ [x]) = sumB xs + cap6 x.length := by
  induction xs with
  | nil => simp [sumB]
  | cons y r ih => simp only [List.cons_append, sumB, ih]; omega
theorem sumW_snoc (xs : List Wt) (x : Wt) : sumW (xs ++ [x]) = sumW xs + cap6 x.2.length := by
  induction xs with
  | nil => simp [sumW]
  | cons y r ih => simp only [List.cons_append, sumW, ih]; omega
theorem sumB_le (xs : List (List UInt8)) : 0 ≤ sumB xs ∧ sumB xs ≤ 1000000 * xs.length := by
  induction xs with
  | nil => simp [sumB]
  | cons y r ih => have := cap6_nonneg y.length; simp only [sumB, List.length_cons]; omega
theorem sumW_le (xs : List Wt) : 0 ≤ sumW xs ∧ sumW xs ≤ 1000000 * xs.length := by
  induction xs with
  | nil => simp [sumW]
  | cons y r ih => have := cap6_nonneg y.2.length; simp only [sumW, List.length_cons]; omega
theorem sumB_mem {xs : List (List UInt8)} {x : List UInt8} (h : x ∈ xs) : cap6 x.length ≤ sumB xs := by
  induction xs with
  | nil => cases h
  | cons y r ih =>
    have := cap6_nonneg y.length
    have := (sumB_le r).1
    simp only [sumB]
    rcases List.mem_cons.1 h with rfl | h
    · omega
    · have := ih h; omega
theorem sumW_mem {xs : List Wt} {x : Wt} (h : x ∈ xs) : cap6 x.2.length ≤ sumW xs := by
  induction xs with
  | nil => cases h
  | cons y r ih =>
    have := cap6_nonneg y.2.length
    have := (sumW_le r).1
    simp only [sumW]
    rcases List.mem_cons.1 h with rfl | h
    · omega
    · have := ih h; omega
def greatB (d : Dk) : Bool := decide (300 < d.1.length) || decide (5000 < d.2.length) || (decide (600 < d.2.length) && decide (d.2.length < 4096)) || decide (800000 < sumB d.1 + sumW d.2)
/-- A disk that is not great is small. -/
structure Small (d : Dk) : Prop where
  rows : d.1.length ≤ 100000
  waits : d.2.length ≤ 100000
  block : ∀ (k : Nat) (x : List UInt8), d.1[k]? = some x → x.length ≤ 1000000
  wait : ∀ (k : Nat) (x : Wt), d.2[k]? = some x → x.2.length ≤ 1000000
theorem small_of_great {d : Dk} (h : greatB d = false) : Small d := by
  simp only [greatB, Bool.or_eq_false_iff, decide_eq_false_iff_not] at h
  obtain ⟨⟨⟨h1, h2⟩, _⟩, h4⟩ := h
  have b1 := (sumB_le d.1).1
  have b2 := (sumW_le d.2).1
  refine ⟨by omega, by omega, fun k x hk => ?_, fun k x hk => ?_⟩
  · have := sumB_mem (List.mem_of_getElem? hk)
    unfold cap6 at this
    split at this <;> omega
  · have := sumW_mem (List.mem_of_getElem? hk)
    unfold cap6 at this
    split at this <;> omega

set_option maxRecDepth 100000 in
set_option maxHeartbeats 2000000 in
theorem great_any (v : Value) (d : Dk) (w : World) (h : Dsk (Old w) w v d) : Calls Tryz.prog 27 #[v] w fun e w' => e = .returned (.bool (greatB d)) ∧ Below w.heap.size w w' := by
  obtain ⟨A, c, B, c', rfl, l1, m1, l2, m2, hA, hB⟩ := h.open
  have HA := Lib.hid hA
  have HB := Lib.hid hB
  clear hA hB h
  have hg : greatB d = (decide (300 < d.1.length) || decide (5000 < d.2.length) || (decide (600 < d.2.length) && decide (d.2.length < 4096)) || decide (800000 < sumB d.1 + sumW d.2)) := rfl
  obtain ⟨n, hn⟩ : ∃ n, d.1.length = n := ⟨_, rfl⟩
  obtain ⟨m, hm⟩ : ∃ m, d.2.length = m := ⟨_, rfl⟩
  rw [hn] at l1 hg ⊢
  rw [hm] at l2 hg ⊢
  replace hn := Lib.hid hn
  replace hm := Lib.hid hm
  obtain ⟨w0, e0, f1, f2, f3, hB1, _⟩ := box_disk w (.slice A n c) (.slice B m c')
  by_cases h1 : 300 < n
  · have hbad := Lib.hid (show greatB d = true by rw [hg]; simp [h1])
    replace h1 : (300 : Int) < n := by omega
    clear hg
    subst e0
    clear f1 f2 f3
    go_enter Tryz.func27, Tryz.ntmps27
    go_wp2_with fail
    go_ret
    exact ⟨ret_bool hbad.out.symm, hB1⟩
  by_cases h2 : 5000 < m
  · have hbad := Lib.hid (show greatB d = true by rw [hg]; simp [h2])
    replace h2 : (5000 : Int) < m := by omega
    replace h1 : ¬ (300 : Int) < n := by omega
    clear hg
    subst e0
    clear f1 f2 f3
    go_enter Tryz.func27, Tryz.ntmps27
    go_wp2_with fail
    go_ret
    exact ⟨ret_bool hbad.out.symm, hB1⟩
  by_cases h3 : 600 < m ∧ m < 4096
  · have hbad := Lib.hid (show greatB d = true by rw [hg]; simp [h3])
    replace h2 : ¬ (5000 : Int) < m := by omega
    replace h1 : ¬ (300 : Int) < n := by omega
    have h3a : (600 : Int) < m := by omega
    have h3b : (m : Int) < 4096 := by omega
    clear hg h3
    subst e0
    clear f1 f2 f3
    go_enter Tryz.func27, Tryz.ntmps27
    go_wp2_with fail
    go_ret
    exact ⟨ret_bool hbad.out.symm, hB1⟩
  have hgd := Lib.hid (show greatB d = decide (800000 < sumB d.1 + sumW d.2) by
    have e1 : decide (300 < n) = false := by simpa using h1
    have e2 : decide (5000 < m) = false := by simpa using h2
    have e3 : (decide (600 < m) && decide (m < 4096)) = false := by
      rw [Bool.and_eq_false_iff]
      simp only [decide_eq_false_iff_not]
      omega
    rw [hg, e1, e2, e3]
    rfl)
  clear hg
  replace f3 := Lib.hid f3
  have hn3 : n ≤ 300 := by omega
  have hm3 : m ≤ 5000 := by omega
  by_cases h6 : 600 < m
  all_goals
    go_enter Tryz.func27, Tryz.ntmps27
    go_upto_region 1 with fail
    rw [← e0]
    clear e0
    go_wp2_with fail
    go_loop [3, 4] (fun s i => ∃ k : Nat, k ≤ n ∧ i = .int .i64 k ∧ s = .int .i64 (sumB (d.1.take k))) (fun _ i => n - (intOf i).toNat)
    case atStart => exact ⟨0, by omega, rfl, rfl⟩
    case round =>
      obtain ⟨k, hk, rfl, rfl⟩ := hrel
      have b1 := sumB_le (d.1.take k)
      have b2 : (d.1.take k).length ≤ k := List.length_take_le _ _
      by_cases hlt : k < n
      · obtain ⟨x, hx⟩ : ∃ x, d.1[k]? = some x := ⟨_, List.getElem?_eq_getElem (by rw [hn.out]; exact hlt)⟩
        obtain ⟨ad, v, rfl, hok, hc, hby⟩ := HA.out k x hx
        have hsn := Lib.hid (show sumB (d.1.take (k + 1)) = sumB (d.1.take k) + cap6 x.length by rw [List.take_add_one, hx]; exact sumB_snoc _ _)
        replace hx := Lib.hid hx
        obtain ⟨E, ce, rfl, _⟩ := rBy_open hby
        replace hc := (hB1.cell hok).trans hc
        have b3 := cap6_nonneg x.length
        generalize sumB (d.1.take k) = s at *
        generalize (d.1.take k).length = q at *
        go_wp2_with fail
        go_round
        case rel => exact ⟨k + 1, by omega, by go_num, by rw [hsn.out]; rfl⟩
        case measure => simp [intOf]; omega
      · have hge : n ≤ k := by omega
        have hs1 : Hid (d.1.take k = d.1) := Lib.hid (List.take_of_length_le (by rw [hn.out]; exact hge))
        rw [hs1.out] at b1 ⊢
        clear b2 hs1
        replace b1 : 0 ≤ sumB d.1 ∧ sumB d.1 ≤ 300000000 := by have := hn.out; omega
        replace hgd := hgd.out
        generalize sumB d.1 = s at *
        replace hgd := Lib.hid hgd
        go_wp2_with fail
        go_loop [3, 5] (fun u i => ∃ k : Nat, k ≤ m ∧ i = .int .i64 k ∧ u = .int .i64 (s + sumW (d.2.take k))) (fun _ i => m - (intOf i).toNat)
        case atStart => exact ⟨0, by omega, rfl, by simp [sumW]⟩
        case round =>
          obtain ⟨k, hk, rfl, rfl⟩ := hrel
          have c1 := sumW_le (d.2.take k)
          have c2 : (d.2.take k).length ≤ k := List.length_take_le _ _
          by_cases hlt : k < m
          · obtain ⟨x, hx⟩ : ∃ x, d.2[k]? = some x := ⟨_, List.getElem?_eq_getElem (by rw [hm.out]; exact hlt)⟩
            obtain ⟨ad, v, rfl, hok, hok2, _, hc, hby, _, _⟩ := HB.out k x hx
            have hsn := Lib.hid (show sumW (d.2.take (k + 1)) = sumW (d.2.take k) + cap6 x.2.length by rw [List.take_add_one, hx]; exact sumW_snoc _ _)
            replace hx := Lib.hid hx
            obtain ⟨E, ce, rfl, _⟩ := rBy_open hby
            replace hc := (hB1.cell hok2).trans hc
            rw [add_next] at hc
            have b3 := cap6_nonneg x.2.length
            generalize sumW (d.2.take k) = t at *
            generalize (d.2.take k).length = q at *
            go_wp2_with fail
            go_round
            case rel => exact ⟨k + 1, by omega, by go_num, by rw [hsn.out, ← Int.add_assoc]; rfl⟩
            case measure => simp [intOf]; omega
          · have hge2 : m ≤ k := by omega
            have hs1 : Hid (d.2.take k = d.2) := Lib.hid (List.take_of_length_le (by rw [hm.out]; exact hge2))
            rw [hs1.out] at c1 ⊢
            clear c2 hs1
            replace c1 : 0 ≤ sumW d.2 ∧ sumW d.2 ≤ 5000000000 := by have := hm.out; omega
            replace hgd := hgd.out
            generalize sumW d.2 = t at *
            replace hgd := Lib.hid hgd
            go_wp2_with fail
            go_ret
            exact ⟨ret_bool hgd.out.symm, hB1⟩
end Go.Proofs.YtdaidhbmfocodaaGreat

/-
  Package dev: there, Check. Conditions: those that each lemma states.
-/
namespace Go.Proofs.YtdaidhbmfocodaaGreat
open Go.RowKit

def thereB (n : Int) : Bool := decide (0 ≤ n) && decide (n < 256)
theorem there_any (n : Int) (w : World) : Calls Tryz.prog 84 #[.int .i64 n] w fun e w' => e = .returned (.bool (thereB n)) ∧ w = w' := by
  unfold thereB
  by_cases h : 0 ≤ n
  · go_enter Tryz.func84, Tryz.ntmps84
    go_wp2
    go_ret
    exact ⟨by simp [h], rfl⟩
  · go_enter Tryz.func84, Tryz.ntmps84
    go_wp2
    go_ret
    exact ⟨by simp; omega, rfl⟩

set_option maxRecDepth 100000 in
set_option maxHeartbeats 2000000 in
theorem check_any (v : Value) (d : Dk) (w : World) (h : Dsk (Old w) w v d) : Calls Tryz.prog 67 #[v] w fun e w' => e = .returned (.int .i64 (chk d)) ∧ Below w.heap.size w w' := by
  obtain ⟨A, c, B, c', rfl, l1, m1, l2, m2, hA, hB⟩ := h.open
  have HA := Lib.hid hA
  have HB := Lib.hid hB
  clear hA hB h
  obtain ⟨n, hn⟩ : ∃ n, d.1.length = n := ⟨_, rfl⟩
  obtain ⟨m, hm⟩ : ∃ m, d.2.length = m := ⟨_, rfl⟩
  rw [hn] at l1 ⊢
  rw [hm] at l2 ⊢
  replace hn := Lib.hid hn
  replace hm := Lib.hid hm
  have hB1 := balloc (Below.refl w.heap.size w) (.cells #[.slice A n c, .slice B m c'] 26)
  by_cases h1 : n = 256
  · subst h1
    by_cases h2 : m ≤ 4096
    · go_enter Tryz.func67, Tryz.ntmps67
      go_wp2_with fail
      go_loopw [20] (fun i wr => ∃ k : Nat, k ≤ 256 ∧ i = .int .i64 k ∧ (d.1.take k).all byB = true ∧ wr = w.alloc (.cells #[.slice A 256 c, .slice B m c'] 26)) (fun i _ => 256 - (intOf i).toNat)
      case atStart => exact ⟨0, by omega, rfl, rfl, rfl⟩
      case round =>
        obtain ⟨k, hk, rfl, ha, rfl⟩ := hrel
        replace ha := Lib.hid ha
        by_cases hlt : k < 256
        · obtain ⟨x, hx⟩ : ∃ x, d.1[k]? = some x := ⟨_, List.getElem?_eq_getElem (by rw [hn.out]; exact hlt)⟩
          replace hx := Lib.hid hx
          obtain ⟨ad, v, rfl, hok, hc, hby⟩ := HA.out k x hx.out
          obtain ⟨E, ce, rfl, _⟩ := rBy_open hby
          have hc' := Lib.cell?_alloc_some (.cells #[.slice (some ad) 256 c, .slice B m c'] 26) hc
          by_cases hx8 : x.length = 128
          · replace hx8 := Lib.hid hx8
            have e8 : ((x.length : Int) != 128) = false := by rw [hx8.out]; rfl
            go_wp2_with fail
            go_roundw
            case rel => exact ⟨k + 1, by omega, by go_num, all_take ha.out hx.out (by simp [byB, hx8.out]), trivial⟩
            case measure => simp [intOf]; omega
          · have e8 : ¬ (x.length : Int) = 128 := by omega
            go_wp2_with fail
            go_ret
            exact ⟨ret_int (chk_bad (may_block hx.out hx8)).symm, hB1⟩
        · have hge : 256 ≤ k := by omega
          have ha' : Hid (d.1.all byB = true) := Lib.hid (by have := ha.out; rwa [List.take_of_length_le (by rw [hn.out]; exact hge)] at this)
          clear ha
          obtain ⟨w0, hw0⟩ : ∃ w0, w.alloc (.cells #[.slice A 256 c, .slice B m c'] 26) = w0 := ⟨_, rfl⟩
          have f1 : w0.cell? ⟨w.heap.size, 0, none⟩ = some (.slice A 256 c) := by rw [← hw0]; simp
          have f2 : w0.cell? ⟨w.heap.size, 1, none⟩ = some (.slice B m c') := by rw [← hw0]; simp
          have f3 : w0.heap.size = w.heap.size + 1 := by rw [← hw0]; simp
          rw [hw0] at hB1 ⊢
          clear hw0
          replace f3 := Lib.hid f3
          go_wp2_with fail
          go_loopw [31] (fun i wr => ∃ k : Nat, k ≤ m ∧ i = .int .i64 k ∧ (d.2.take k).all wtB = true ∧ Below w0.heap.size w0 wr) (fun i _ => m - (intOf i).toNat)
          case atStart => exact ⟨0, by omega, rfl, rfl, Below.refl _ _⟩
          case round =>
            obtain ⟨k, hk, rfl, ha, hb⟩ := hrel
            replace ha := Lib.hid ha
            by_cases hlt : k < m
            · obtain ⟨x, hx⟩ : ∃ x, d.2[k]? = some x := ⟨_, List.getElem?_eq_getElem (by rw [hm.out]; exact hlt)⟩
              replace hx := Lib.hid hx
              obtain ⟨ad, v, rfl, hok1, hok2, hc1, hc2, hby, _, _⟩ := HB.out k x hx.out
              obtain ⟨E, ce, rfl, _⟩ := rBy_open hby
              have hbw := hB1.trans (hb.mono hB1.size)
              have g1 := (hbw.cell hok1).trans hc1
              have g2 := (hbw.cell hok2).trans hc2
              rw [add_next] at g2
              have g3 := (hb.cell (p := ⟨w.heap.size, 1, none⟩) (by rw [f3.out]; simp)).trans f2
              by_cases ht : thereB x.1 = true
              · by_cases hx8 : x.2.length = 128
                · replace hx8 := Lib.hid hx8
                  have e8 : ((x.2.length : Int) != 128) = false := by rw [hx8.out]; rfl
                  have hall := Lib.hid (all_take ha.out hx.out (by unfold thereB at ht; simp [wtB, hx8.out]; simpa using ht))
                  go_wp2_with fail
                  refine (there_any _ _).mono ?_
                  rintro e w2 ⟨rfl, rfl⟩
                  rw [ht]
                  go_wp2_with fail
                  go_roundw
                  case rel => exact ⟨k + 1, by omega, by go_num, hall.out, hb.alloc hb.size _⟩
                  case measure => simp [intOf]; omega
                · have e8 : ((x.2.length : Int) != 128) = true := by simp; omega
                  have hbad := Lib.hid (chk_bad (may_wait hx.out (show wtB x = false by simp [wtB, hx8])))
                  go_wp2_with fail
                  refine (there_any _ _).mono ?_
                  rintro e w2 ⟨rfl, rfl⟩
                  rw [ht]
                  go_wp2_with fail
                  go_ret
                  exact ⟨ret_int hbad.out.symm, hB1.trans ((hb.alloc hb.size _).mono hB1.size)⟩
              · have ht' : thereB x.1 = false := by simpa using ht
                have hbad := Lib.hid (chk_bad (may_wait hx.out (show wtB x = false by unfold thereB at ht'; simp [wtB, ht'])))
                clear ht
                go_wp2_with fail
                refine (there_any _ _).mono ?_
                rintro e w2 ⟨rfl, rfl⟩
                rw [ht']
                go_wp2_with fail
                go_ret
                exact ⟨ret_int hbad.out.symm, hB1.trans ((hb.alloc hb.size _).mono hB1.size)⟩
            · obtain rfl : k = m := by omega
              have hok := Lib.hid (chk_ok (may_mk hn.out (by rw [hm.out]; exact h2) ha'.out (by have := ha.out; rwa [List.take_of_length_le (by rw [hm.out]; exact Nat.le_refl _)] at this)))
              go_wp2_with fail
              go_ret
              exact ⟨ret_int hok.out.symm, hB1.trans (hb.mono hB1.size)⟩
    · have h2' : (4096 : Int) < m := by omega
      have hbad := Lib.hid (chk_bad (may_len2 (d := d) (by rw [hm.out]; omega)))
      go_enter Tryz.func67, Tryz.ntmps67
      go_wp2_with fail
      go_ret
      exact ⟨ret_int hbad.out.symm, hB1⟩
  · have h1' : ((n : Int) != 256) = true := by simp; omega
    have hbad := Lib.hid (chk_bad (may_len1 (d := d) (by rw [hn.out]; exact h1)))
    go_enter Tryz.func67, Tryz.ntmps67
    go_wp2_with fail
    go_ret
    exact ⟨ret_int hbad.out.symm, hB1⟩
end Go.Proofs.YtdaidhbmfocodaaGreat

/-
  Package dev: Twin. Conditions: those that each lemma states.
-/
namespace Go.Proofs.YtdaidhbmfocodaaGreat
open Go.RowKit

/-- Cells of the call's own, apart from one row. -/
def NewBut (lo : Nat) (A : Option Addr) (w : World) : Addr → Prop := fun p => New lo w p ∧ A.map (·.block) ≠ some p.block
end Go.Proofs.YtdaidhbmfocodaaGreat

/-
  Package dev: Same, and what it calls (bytes.Equal, slices.EqualFunc, sameWrite). Conditions: those that each lemma states.
-/
namespace Go.Proofs.YtdaidhbmfocodaaGreat
open Go.RowKit

/-- 'string(b)' of bytes. -/
theorem rBy_str {w : World} {v : Value} {xs : List UInt8} (h : rBy (Old w) w [v] xs) (d : Nat) : (convert 27 9 v).run Tryz.prog (w.drewN d) = .ok (.string ⟨xs.toArray⟩) (w.drewN d) := by
  obtain ⟨A, cap, rfl, _, _, hb⟩ := rBy_byt (B := w.heap.size) (fun _ h => h) h
  exact (hb.drewN d).str (P := Tryz.prog) 27 9 5 xs.length cap rfl Tryz.underlying27 Tryz.underlying5 Tryz.underlying9

theorem rBy_str0 {w : World} {v : Value} {xs : List UInt8} (h : rBy (Old w) w [v] xs) : (convert 27 9 v).run Tryz.prog w = .ok (.string ⟨xs.toArray⟩) w := rBy_str h 0
theorem beq_dec (xs ys : List UInt8) : (xs == ys) = decide (xs = ys) := by rw [Bool.eq_iff_iff]; simp
theorem take_eq_succ {α : Type} {xs ys : List α} {k : Nat} {x y : α} (h : xs.take k = ys.take k) (hx : xs[k]? = some x) (hy : ys[k]? = some y) (e : x = y) : xs.take (k + 1) = ys.take (k + 1) := by
  rw [List.take_add_one, List.take_add_one, h, hx, hy, e]
theorem ne_of_at {α : Type} {xs ys : List α} {k : Nat} {x y : α} (hx : xs[k]? = some x) (hy : ys[k]? = some y) (e : x ≠ y) : xs ≠ ys := fun h => by
  subst h
  rw [hx] at hy
  cases hy
  exact e rfl

def sameB (d o : Dk) : Bool := decide (d = o)
end Go.Proofs.YtdaidhbmfocodaaGreat

/-
  Sums of bytes: plain arithmetic, no program. Conditions: those that each lemma states.
-/
namespace Go.Proofs.YtdaidhbmfocodaaGreat

/-- Half of s, turned if s was odd. -/
def halfN (s : Nat) : Nat := if s % 2 = 1 then s / 2 ^^^ 3988292384 else s / 2
def halvesN : Nat → Nat → Nat
  | 0, s => s
  | k + 1, s => halfN (halvesN k s)
def fourN (s : Nat) : Nat := halvesN 4 s
def nibN (s : Nat) : Nat := fourN (s % 16) ^^^ (s / 16)
def stepN (s : Nat) (c : UInt8) : Nat := nibN (nibN (s ^^^ c.toNat))
def foldN (s : Nat) (xs : List UInt8) : Nat := xs.foldl stepN s
def crc (xs : List UInt8) : Nat := foldN 4294967295 xs ^^^ 4294967295

theorem xor_lt32 {a b : Nat} (ha : a < 4294967296) (hb : b < 4294967296) : a ^^^ b < 4294967296 := Nat.xor_lt_two_pow (n := 32) ha hb
theorem halfN_lt {s : Nat} (h : s < 4294967296) : halfN s < 4294967296 := by
  unfold halfN
  split
  · exact xor_lt32 (by omega) (by omega)
  · omega
theorem halvesN_lt (k : Nat) {s : Nat} (h : s < 4294967296) : halvesN k s < 4294967296 := by
  induction k with
  | zero => exact h
  | succ k ih => exact halfN_lt ih
theorem halvesN_succ (k s : Nat) : halvesN (k + 1) s = halfN (halvesN k s) := rfl
theorem fourN_lt {s : Nat} (h : s < 4294967296) : fourN s < 4294967296 := halvesN_lt 4 h
theorem nibN_lt {s : Nat} (h : s < 4294967296) : nibN s < 4294967296 := xor_lt32 (fourN_lt (by omega)) (by omega)
theorem byte_lt (c : UInt8) : c.toNat < 4294967296 := by have := c.toNat_lt; omega
theorem stepN_lt {s : Nat} (h : s < 4294967296) (c : UInt8) : stepN s c < 4294967296 := nibN_lt (nibN_lt (xor_lt32 h (byte_lt c)))
theorem foldN_lt : ∀ (xs : List UInt8) {s : Nat}, s < 4294967296 → foldN s xs < 4294967296
  | [], _, h => h
  | c :: r, _, h => foldN_lt r (stepN_lt h c)
theorem crc_lt (xs : List UInt8) : crc xs < 4294967296 := xor_lt32 (foldN_lt xs (by omega)) (by omega)
theorem foldN_snoc (s : Nat) (xs : List UInt8) (c : UInt8) : foldN s (xs ++ [c]) = stepN (foldN s xs) c := by simp [foldN]
/-! ### Halving is by exclusive or, bit by bit -/
/-! ### Nothing else halves to nought -/
/-! ### Up to four bytes side by side -/
end Go.Proofs.YtdaidhbmfocodaaGreat

/-
  Package sum: half, fours, Of. Conditions: those that each lemma states.
-/
namespace Go.Proofs.YtdaidhbmfocodaaGreat
open Go.RowKit

theorem band1 (s : Nat) (h : s < 4294967296) : bits .and .u32 (s : Int) 1 = ((s % 2 : Nat) : Int) := by
  have := u32_and_nat s 1 h (by omega)
  rwa [nat_mask1] at this
theorem band15 (s : Nat) (h : s < 4294967296) : bits .and .u32 (s : Int) 15 = ((s % 16 : Nat) : Int) := by
  have := u32_and_nat s 15 h (by omega)
  rwa [nat_mask4] at this
theorem bxor (a b : Nat) (x y : Int) (hx : x = a) (hy : y = b) (ha : a < 4294967296) (hb : b < 4294967296) : bits .xor .u32 x y = ((a ^^^ b : Nat) : Int) := by
  rw [hx, hy]
  exact u32_xor_nat a b ha hb

theorem half_any (s : Nat) (h : s < 4294967296) (w : World) :
    Calls Tryz.prog 136 #[.int .u32 s] w fun e w' => e = .returned (.int .u32 (halfN s)) ∧ w = w' := by
  have hb := band1 s h
  rcases (by omega : s % 2 = 1 ∨ s % 2 = 0) with h1 | h1
  · have e : Hid (halfN s = s / 2 ^^^ 3988292384) := Lib.hid (if_pos h1)
    rw [h1] at hb
    have hx := bxor (s / 2) 3988292384 ((s : Int) / 2) 3988292384 (by omega) (by omega) (by omega) (by omega)
    clear h1
    go_enter Tryz.func136, Tryz.ntmps136
    go_wp2
    go_ret
    rw [e.out]
    exact ⟨rfl, rfl⟩
  · have e : Hid (halfN s = s / 2) := Lib.hid (if_neg (by omega))
    rw [h1] at hb
    clear h1
    go_enter Tryz.func136, Tryz.ntmps136
    go_wp2
    go_ret
    rw [e.out]
    exact ⟨rfl, rfl⟩

/-- The table: what halving four times leaves of each four bits. -/
def tabV (k : Nat) : Array Value := ((List.range 16).map fun i => Value.int .u32 (if i < k then (fourN i : Int) else 0)).toArray
theorem tabV_size (k : Nat) : (tabV k).size = 16 := by simp [tabV]
theorem tabV_set (k : Nat) (_ : k < 16) : (tabV k).setIfInBounds k (.int .u32 (fourN k)) = tabV (k + 1) := by
  apply Array.ext
  · simp [tabV]
  · intro i h1 h2
    have hi : i < 16 := by simpa [tabV] using h2
    rw [Array.getElem_setIfInBounds (by rw [tabV_size]; exact hi)]
    by_cases e : k = i
    · subst e; simp [tabV]
    · have : i < k + 1 ↔ i < k := by omega
      have hk : i < (tabV k).size := by rw [tabV_size]; exact hi
      simp [e, this, tabV]
theorem tabV_get (k i : Nat) (h : i < k) (hk : k ≤ 16) : (tabV k)[i]? = some (.int .u32 (fourN i)) := by
  simp [tabV, h, show i < 16 by omega]
theorem store_whole {P : Program} {w : World} {g : Nat} {t : TypeId} {cur cs : Array Value} (hg : w.heap[g]? = some (.cells cur t (0, 0))) (hl : cs.size = cur.size) (h1 : ∀ v ∈ cs.toList, v.oneCell' = true) :
    (storeCells ⟨g, 0, none⟩ cs.toList).run P w = .ok () (w.setRow g cs) := by
  have := run_storeCells_from (P := P) g t cs.toList 0 cur w hg (by simpa using hl) h1
  simpa using this
theorem tabV_one (k : Nat) : ∀ v ∈ (tabV k).toList, v.oneCell' = true := by
  intro v hv
  simp only [tabV, List.mem_map, List.toList_toArray] at hv
  obtain ⟨i, _, rfl⟩ := hv
  rfl
theorem tab_info : (Tryz.prog.info? 164).map (·.size) = some 16 := by kernel_rfl

set_option maxRecDepth 100000 in
set_option maxHeartbeats 800000 in
theorem fours_any (w : World) :
    Calls Tryz.prog 111 #[] w fun e w' => e = .returned (.agg (tabV 16)) ∧ Below w.heap.size w w' := by
  have h0 : #[Value.int .u32 0, .int .u32 0, .int .u32 0, .int .u32 0, .int .u32 0, .int .u32 0, .int .u32 0, .int .u32 0, .int .u32 0, .int .u32 0, .int .u32 0, .int .u32 0, .int .u32 0, .int .u32 0, .int .u32 0, .int .u32 0] = tabV 0 := by kernel_rfl
  have H0 := Lib.hid h0
  clear h0
  go_enter Tryz.func111, Tryz.ntmps111
  go_wp2
  rw [H0.out]
  go_loopw [4] (fun i wr => ∃ k : Nat, k ≤ 16 ∧ i = .int .i64 k ∧ wr.heap.size = w.heap.size + 2 ∧ wr.heap[w.heap.size + 1]? = some (.cells (tabV k) 164 (0, 0)) ∧ wr.heap[w.heap.size]? = some (.cells (tabV 0) 164 (0, 0)) ∧ Below w.heap.size w wr)
    (fun i _ => 16 - (intOf i).toNat)
  case atStart => exact ⟨0, by omega, rfl, by simp, by simpa using heap_alloc_new (w.alloc (Obj.cells (tabV 0) 164)) (Obj.cells (tabV 0) 164), heap_alloc2_old w _ _, balloc (balloc (Below.refl _ _) _) _⟩
  case round =>
    obtain ⟨k, hk, rfl, hs, hT, hR, hB⟩ := hrel
    by_cases hlt : k < 16
    · have hd : decide ((k : Int) < 16) = true := by simp; omega
      go_wp2
      go_loop [3, 9] (fun s j => ∃ m : Nat, m ≤ 4 ∧ j = .int .i64 m ∧ s = .int .u32 (halvesN m k)) (fun _ j => 4 - (intOf j).toNat)
      case atStart => exact ⟨0, by omega, rfl, rfl⟩
      case round =>
        obtain ⟨m, hm, rfl, rfl⟩ := hrel
        have hl := halvesN_lt m (s := k) (by omega)
        by_cases hm4 : m < 4
        · have hh := Lib.hid (halvesN_succ m k)
          generalize halvesN m k = q at *
          go_wp2_with (go_at_call 136; refine (half_any _ hl _).mono ?_; rintro e w' ⟨rfl, rfl⟩)
          go_round
          case rel => exact ⟨m + 1, by omega, by go_num, by rw [hh.out]⟩
          case measure => simp [intOf]; omega
        · obtain rfl : m = 4 := by omega
          have hc : wr.cell? ⟨w.heap.size + 1, k, none⟩ = some (.int .u32 0) := by rw [cell_of_row _ _ _ _ _ _ hT]; simp [tabV, hlt]
          have hf : wr.frozen? ⟨w.heap.size + 1, k, none⟩ = false := frozen_of_row _ _ _ _ _ hT
          go_wp2
          go_roundw
          case rel => exact ⟨k + 1, by omega, by go_num, by simpa using hs, (heap_setCell_same _ _ _ _ _ _ hT).trans (by rw [← tabV_set k hlt]; rfl), (heap_setCell_other _ _ _ _ (by simp)).trans hR, hB.setCell (by simp) _⟩
          case measure => simp [intOf]; omega
    · obtain rfl : k = 16 := by omega
      have hst := store_whole (P := Tryz.prog) (cs := tabV 16) hR (by simp [tabV_size]) (tabV_one 16)
      go_wp2_with (refine wpList_load_row rfl 164 _ rfl (w.heap.size + 1) rfl 164 (tabV 16) (0, 0) _ hT Tryz.underlying164 rfl ((tabV_size 16).symm ▸ tab_info) ?_)
      refine bodyPost_ret (v := .agg (tabV 16)) (results_cell_row Tryz.results111 _ _ w.heap.size 164 (tabV 16) (0, 0) _ rfl (setRow_heap _ _ _ _ _ _ hR) Tryz.underlying164 rfl ((tabV_size 16).symm ▸ tab_info)) rfl ⟨rfl, ?_⟩
      exact hB.trans ⟨rfl, rfl, rfl, by simp, fun k hk => setRow_other _ _ _ _ (by omega)⟩

theorem tab_store (w : World) : (storeCells ⟨w.heap.size, 0, none⟩ (tabV 16).toList).run Tryz.prog (w.alloc (Obj.cells #[Value.int .u32 0, .int .u32 0, .int .u32 0, .int .u32 0, .int .u32 0, .int .u32 0, .int .u32 0, .int .u32 0, .int .u32 0, .int .u32 0, .int .u32 0, .int .u32 0, .int .u32 0, .int .u32 0, .int .u32 0, .int .u32 0] 164)) = .ok () (w.alloc (.cells (tabV 16) 164)) := by
  rw [store_whole (heap_alloc_new w _) (by rw [tabV_size]; rfl) (tabV_one 16)]
  congr 1
  unfold World.setRow World.alloc
  congr 1
  apply Array.ext
  · simp
  · intro k h1 h2
    simp only [Array.getElem_modify, Array.getElem_push]
    have h3 : k < w.heap.size + 1 := by simpa using h2
    by_cases e : k < w.heap.size
    · rw [if_neg (by omega)]
      simp [e]
    · rw [if_pos (by omega)]
      simp [e]
theorem take_succ_fold (s : Nat) (xs : List UInt8) (k : Nat) (h : k < xs.length) : foldN s (xs.take (k + 1)) = nibN (nibN (foldN s (xs.take k) ^^^ (xs[k]?.getD 0).toNat)) := by
  rw [List.take_succ_eq_append_getElem h, foldN_snoc, List.getElem?_eq_getElem h]
  rfl
theorem of_nil (A : Option Addr) (cap : Nat) (w : World) :
    Calls Tryz.prog 87 #[.slice A 0 cap] w fun e w' => e = .returned (.int .u32 0) ∧ Below w.heap.size w w' := by
  have hT := tabV_size 16
  go_enter Tryz.func87, Tryz.ntmps87
  go_wp2_with (go_at_call 111; refine (fours_any _).mono ?_; rintro e w1 ⟨rfl, hb1⟩; have hst := tab_store w1)
  refine wp_loop_rounds 1 ?_
  rw [rounds_succ]
  go_wp2
  go_ret
  exact ⟨rfl, balloc hb1 _⟩
set_option maxRecDepth 100000 in
set_option maxHeartbeats 800000 in
theorem of_any (A : Option Addr) (len cap : Nat) (xs : List UInt8) (hlen : Hid (xs.length = len)) (hlc : len ≤ cap) (hcap : cap ≤ 9223372036854775807) (w : World) (hx : Byt w w.heap.size A xs) :
    Calls Tryz.prog 87 #[.slice A len cap] w fun e w' => e = .returned (.int .u32 (crc xs : Nat)) ∧ Below w.heap.size w w' := by
  obtain rfl := hlen.out
  rcases Nat.eq_zero_or_pos xs.length with h0 | h0
  · have hx0 : xs = [] := List.eq_nil_of_length_eq_zero h0
    subst hx0
    exact of_nil A cap w
  · have hT := tabV_size 16
    obtain ⟨ad, rfl, hbl, hc⟩ := hx h0
    go_enter Tryz.func87, Tryz.ntmps87
    go_wp2_with (go_at_call 111; refine (fours_any _).mono ?_; rintro e w1 ⟨rfl, hb1⟩; have hst := tab_store w1)
    have hB := balloc hb1 (Obj.cells (tabV 16) 164)
    have hg := heap_alloc_new w1 (Obj.cells (tabV 16) 164)
    generalize w1.alloc (Obj.cells (tabV 16) 164) = w2 at *
    generalize w1.heap.size = g at *
    clear hst hb1
    go_loop [4, 10] (fun s i => ∃ k : Nat, k ≤ xs.length ∧ i = .int .i64 k ∧ s = .int .u32 (foldN 4294967295 (xs.take k) : Nat)) (fun _ i => xs.length - (intOf i).toNat)
    case atStart => exact ⟨0, by omega, rfl, rfl⟩
    case round =>
      obtain ⟨k, hk, rfl, rfl⟩ := hrel
      have hq := foldN_lt (s := 4294967295) (xs.take k) (by omega)
      by_cases hlt : k < xs.length
      · have hs := Lib.hid (take_succ_fold 4294967295 xs k hlt)
        have hcx := (hB.cell (p := ad.add k) (by rw [add_block]; exact hbl)).trans (hc k hlt)
        have hxb := (xs[k]?.getD 0).toNat_lt
        have hx1 := bxor (foldN 4294967295 (xs.take k)) (xs[k]?.getD 0).toNat _ _ rfl rfl hq (by omega)
        have hr1 := xor_lt32 hq (by omega : (xs[k]?.getD 0).toNat < 4294967296)
        generalize xs[k]?.getD 0 = c at *
        generalize foldN 4294967295 (xs.take k) = q at *
        generalize q ^^^ c.toNat = r1 at *
        have ha1 := band15 r1 hr1
        have hc1 : w2.cell? ⟨g, r1 % 16, none⟩ = some (.int .u32 (fourN (r1 % 16))) := by rw [cell_of_row _ _ _ _ _ _ hg]; exact tabV_get 16 _ (by omega) (by omega)
        have hx2 := bxor (fourN (r1 % 16)) (r1 / 16) (fourN (r1 % 16)) ((r1 : Int) / 16) rfl (by omega) (fourN_lt (by omega)) (by omega)
        have hr2 := nibN_lt hr1
        have he2 : fourN (r1 % 16) ^^^ (r1 / 16) = nibN r1 := rfl
        rw [he2] at hx2
        clear he2
        generalize nibN r1 = r2 at *
        have ha2 := band15 r2 hr2
        have hc2 : w2.cell? ⟨g, r2 % 16, none⟩ = some (.int .u32 (fourN (r2 % 16))) := by rw [cell_of_row _ _ _ _ _ _ hg]; exact tabV_get 16 _ (by omega) (by omega)
        have hx3 := bxor (fourN (r2 % 16)) (r2 / 16) (fourN (r2 % 16)) ((r2 : Int) / 16) rfl (by omega) (fourN_lt (by omega)) (by omega)
        have hr3 := nibN_lt hr2
        have he3 : fourN (r2 % 16) ^^^ (r2 / 16) = nibN r2 := rfl
        rw [he3] at hx3
        clear he3
        generalize nibN r2 = r3 at *
        have hm1 : r1 % 16 < 16 := by omega
        have hm2 : r2 % 16 < 16 := by omega
        generalize r1 % 16 = i1 at *
        generalize r2 % 16 = i2 at *
        generalize fourN i1 = f1 at *
        generalize fourN i2 = f2 at *
        clear hB hg hc hbl
        go_wp2
        go_round
        case rel => exact ⟨k + 1, by omega, by go_num, by rw [hs.out]⟩
        case measure => simp [intOf]; omega
      · obtain rfl : k = xs.length := by omega
        rw [List.take_length] at *
        have he := Lib.hid (bxor _ 4294967295 _ 4294967295 rfl rfl hq (by omega))
        go_wp2
        go_ret
        exact ⟨ret_int he.out, hB⟩
end Go.Proofs.YtdaidhbmfocodaaGreat

/-
  Rows of bytes of a call's own: what they are once more blocks have been made, and once one byte is stored. Conditions: those that each lemma states.
-/
namespace Go.Proofs.YtdaidhbmfocodaaGreat
open Go.RowKit

/-- A block that is known whole, as a row of the call's own. -/
theorem Row.own {w : World} {g B : Nat} {xs : List UInt8} (h : Row w g xs) (hb : B ≤ g) (hm : xs.length ≤ 9223372036854775807) : w.ownsRow B 5 1 (.slice (some ⟨g, 0, none⟩) xs.length xs.length) xs.length (u8s xs) :=
  ⟨by simp [u8s], .inr ⟨g, xs.length, (u8s xs).toArray, rfl, hb, h, Nat.le_refl _, by unfold maxLen; omega, by simp [u8s], by simp [u8s, List.take_of_length_le]⟩⟩
end Go.Proofs.YtdaidhbmfocodaaGreat

/-
  Superblocks (api.Super): how they read; which may be; structs of whatever fields as arguments; lists of numbers. Conditions: those that each lemma states.
-/
namespace Go.Proofs.YtdaidhbmfocodaaGreat
open Go.ChangeShapes Go.WideShapes Go.RowKit

/-! ### Structs as arguments -/
def OpensF {α : Type} (P : Program) (tot : Nat) (fs : List Field) (off : Nat) (R : Rel α) : Prop := ∀ {H : Type} {enc : TypeId × Value → H} {w : World} {spare : Nat → Bool} {held : Bool} {n : Nat} {cs : List Value}, cs.length = tot →
  (∀ f ∈ fs, ∃ y, DataW.trod enc P w 0 spare held n f.type ((cs.drop f.offset).take (P.cellsOf f.type)) = some y) → ∃ a, R (Old w) w (cs.drop off) a
theorem opensF_one {α : Type} {P : Program} {tot off : Nat} {f : Field} {R : Rel α} (h0 : f.offset = off) (h1 : off + P.cellsOf f.type = tot) (hR : Opens P f.type R) : OpensF P tot [f] off R := fun {H enc w spare held n cs} hl hf => by
  obtain ⟨y, hy⟩ := hf f (List.mem_singleton.2 rfl)
  rw [h0, List.take_of_length_le (by simp; omega)] at hy
  exact hR hy
theorem opensF_cons {α β : Type} {P : Program} {tot off : Nat} {f : Field} {fs : List Field} {R : Rel α} {S : Rel β} (h0 : f.offset = off) (hR : Opens P f.type R) (hS : OpensF P tot fs (off + P.cellsOf f.type) S) : OpensF P tot (f :: fs) off (rPair R S) := fun {H enc w spare held n cs} hl hf => by
  obtain ⟨y, hy⟩ := hf f (List.mem_cons_self ..)
  rw [h0] at hy
  obtain ⟨a, ha⟩ := hR hy
  obtain ⟨b, hb⟩ := hS hl (fun g hg => hf g (List.mem_cons_of_mem _ hg))
  exact ⟨(a, b), _, _, by rw [← List.drop_drop]; exact (List.take_append_drop _ _).symm, ha, hb⟩
theorem opens_struct {α : Type} {P : Program} {t : TypeId} {fs : Array Field} {R : Rel α} (ht : P.underlying t = some (.struct fs)) (hS : OpensF P (P.cellsOf t) fs.toList 0 R) : Opens P t R := fun {H enc w spare held fuel cs x} h => by
  obtain ⟨ys, n, _, _, hl, hys, hf⟩ := DataW.trod_struct ht h
  obtain ⟨a, ha⟩ := hS (n := n) (enc := enc) (spare := spare) (held := held) hl (fun f hm => by
    obtain ⟨j, hj⟩ := List.getElem?_of_mem hm
    have hj' : fs[j]? = some f := by rw [← Array.getElem?_toList]; exact hj
    have h1 := hf j f hj'
    have hlt : j < ys.length := by
      rw [hys]
      exact (Array.getElem?_eq_some_iff.1 hj').1
    exact ⟨ys[j], by rw [h1, List.getElem?_eq_getElem hlt]⟩)
  exact ⟨a, ha⟩

/-! ### Lists of numbers -/
def rInts : Rel (List Int) := rSl 1 (rK .i64)
theorem stab_ints : Stab rInts := stab_sl (stab_k _)
def In64 (n : Int) : Prop := -9223372036854775808 ≤ n ∧ n ≤ 9223372036854775807
theorem rInts_open {ok : Addr → Prop} {w : World} {v : Value} {xs : List Int} (h : rInts ok w [v] xs) : ∃ A cap, v = .slice A xs.length cap ∧ xs.length ≤ cap ∧ cap ≤ 9223372036854775807 ∧
    ∀ i x, xs[i]? = some x → ∃ ad, A = some ad ∧ ok (ad.add i) ∧ w.cell? (ad.add i) = some (.int .i64 x) ∧ In64 x := by
  obtain ⟨A, cap, h1, h2, h3, h4⟩ := h
  refine ⟨A, cap, by simpa using h1, h2, h3, fun i x hi => ?_⟩
  obtain ⟨ad, vs, e1, e2, e3, rfl, b1, b2⟩ := h4 i x hi
  have := e3 0 _ rfl
  rw [Nat.mul_one, Nat.add_zero] at this
  exact ⟨ad, e1, this.1, this.2, by simpa [IntKind.min, IntKind.signed, IntKind.bits] using b1, by simpa [IntKind.max, IntKind.signed, IntKind.bits] using b2⟩
/-! ### Superblocks: generation, root, next, table, dead -/
abbrev Sp := Int × Int × Int × Int × List Int
def rSp : Rel Sp := rPair (rK .u32) (rPair (rK .i64) (rPair (rK .u32) (rPair (rK .u32) rInts)))
def InU (n : Int) : Prop := 0 ≤ n ∧ n < 4294967296
structure InSp (s : Sp) : Prop where
  gen : InU s.1
  root : In64 s.2.1
  next : InU s.2.2.1
  table : InU s.2.2.2.1
/-- A value that reads as a superblock. -/
def Sup (ok : Addr → Prop) (w : World) (v : Value) (s : Sp) : Prop := ∃ d, v = .agg #[.int .u32 s.1, .int .i64 s.2.1, .int .u32 s.2.2.1, .int .u32 s.2.2.2.1, d] ∧ InSp s ∧ rInts ok w [d] s.2.2.2.2
theorem rSp_mk {ok : Addr → Prop} {w : World} {d : Value} {s : Sp} (h : InSp s) (hd : rInts ok w [d] s.2.2.2.2) : rSp ok w [.int .u32 s.1, .int .i64 s.2.1, .int .u32 s.2.2.1, .int .u32 s.2.2.2.1, d] s := by
  obtain ⟨⟨a1, a2⟩, ⟨b1, b2⟩, ⟨c1, c2⟩, ⟨d1, d2⟩⟩ := h
  refine ⟨[_], _, rfl, ⟨rfl, ?_, ?_⟩, [_], _, rfl, ⟨rfl, ?_, ?_⟩, [_], _, rfl, ⟨rfl, ?_, ?_⟩, [_], _, rfl, ⟨rfl, ?_, ?_⟩, hd⟩ <;> simp [IntKind.min, IntKind.max, IntKind.signed, IntKind.bits] <;> omega
theorem Sup.cells {ok : Addr → Prop} {w : World} {v : Value} {s : Sp} (h : Sup ok w v s) : rSp ok w v.cells.toList s := by
  obtain ⟨d, rfl, h1, h2⟩ := h
  exact rSp_mk h1 h2
theorem Sup.map {ok ok' : Addr → Prop} {w w' : World} {v : Value} {s : Sp} (hk : ∀ p v, ok p → w.cell? p = some v → ok' p ∧ w'.cell? p = some v) (h : Sup ok w v s) : Sup ok' w' v s := by
  obtain ⟨d, e, h1, h2⟩ := h
  exact ⟨d, e, h1, stab_ints _ _ _ _ _ _ hk h2⟩
theorem Sup.below {w w' : World} {v : Value} {s : Sp} (h : Sup (Old w) w v s) (hb : Below w.heap.size w w') : Sup (Old w') w' v s :=
  h.map fun _ _ hp hc => ⟨Nat.lt_of_lt_of_le hp hb.size, (hb.cell hp).trans hc⟩
theorem Sup.drop {lo : Nat} {w : World} {v : Value} {s : Sp} (h : Sup (New lo w) w v s) : Sup (Old w) w v s :=
  h.map fun _ _ hp hc => ⟨hp.2.1, hc⟩
theorem Sup.new {lo lo' : Nat} {w w' : World} {v : Value} {s : Sp} (h : Sup (New lo w) w v s) (hl : lo' ≤ lo) (hb : Below w.heap.size w w') : Sup (New lo' w') w' v s :=
  h.map fun _ _ hp hc => ⟨⟨Nat.le_trans hl hp.1, Nat.lt_of_lt_of_le hp.2.1 hb.size, (hb.frozen hp.2.1).trans hp.2.2⟩, (hb.cell hp.2.1).trans hc⟩
/-- A superblock, opened. -/
theorem Sup.open {ok : Addr → Prop} {w : World} {v : Value} {s : Sp} (h : Sup ok w v s) : ∃ A c, v = .agg #[.int .u32 s.1, .int .i64 s.2.1, .int .u32 s.2.2.1, .int .u32 s.2.2.2.1, .slice A s.2.2.2.2.length c] ∧ InSp s ∧ s.2.2.2.2.length ≤ c ∧ c ≤ 9223372036854775807 ∧ rInts ok w [.slice A s.2.2.2.2.length c] s.2.2.2.2 ∧
    ∀ i x, s.2.2.2.2[i]? = some x → ∃ ad, A = some ad ∧ ok (ad.add i) ∧ w.cell? (ad.add i) = some (.int .i64 x) ∧ In64 x := by
  obtain ⟨d, rfl, h1, h2⟩ := h
  obtain ⟨A, c, rfl, h3, h4, h5⟩ := rInts_open h2
  exact ⟨A, c, rfl, h1, h3, h4, h2, h5⟩
/-- A box of five. -/
theorem box_five (w : World) (a b c d e : Value) (t : TypeId) : ∃ w1, w.alloc (.cells #[a, b, c, d, e] t) = w1 ∧ w1.cell? ⟨w.heap.size, 0, none⟩ = some a ∧ w1.cell? ⟨w.heap.size, 1, none⟩ = some b ∧ w1.cell? ⟨w.heap.size, 2, none⟩ = some c ∧ w1.cell? ⟨w.heap.size, 3, none⟩ = some d ∧ w1.cell? ⟨w.heap.size, 4, none⟩ = some e ∧ w1.heap.size = w.heap.size + 1 ∧ Below w.heap.size w w1 ∧ w1.heap[w.heap.size]? = some (.cells #[a, b, c, d, e] t (0, 0)) :=
  ⟨_, rfl, by simp, by simp, by simp, by simp, by simp, by simp, (Below.refl _ _).alloc (Nat.le_refl _) _, heap_alloc_new _ _⟩

/-! ### Which superblocks may be -/
/-! ### Arguments -/
end Go.Proofs.YtdaidhbmfocodaaGreat

/-
  Package ring and the document's answers of layer 4: which superblocks may be; whether two are the same; slots. Conditions: those that each lemma states.
-/
namespace Go.Proofs.YtdaidhbmfocodaaGreat
open Go.RowKit

/-! ### Two lists of numbers; two superblocks -/
set_option maxRecDepth 100000 in
set_option maxHeartbeats 2000000 in
theorem sameNumbers_any (v u : Value) (xs ys : List Int) (w : World) (hv : rInts (Old w) w [v] xs) (hu : rInts (Old w) w [u] ys) :
    Calls Tryz.prog 17 #[v, u] w fun e w' => e = .returned (.bool (decide (xs = ys))) ∧ Below w.heap.size w w' := by
  obtain ⟨A, c, rfl, l1, m1, hA⟩ := rInts_open hv
  obtain ⟨B, c', rfl, l2, m2, hB⟩ := rInts_open hu
  have HA := Lib.hid hA
  have HB := Lib.hid hB
  clear hA hB hv hu
  obtain ⟨n, hn⟩ : ∃ n, xs.length = n := ⟨_, rfl⟩
  obtain ⟨m, hm⟩ : ∃ m, ys.length = m := ⟨_, rfl⟩
  rw [hn] at l1 ⊢
  rw [hm] at l2 ⊢
  replace hn := Lib.hid hn
  replace hm := Lib.hid hm
  by_cases e : n = m
  case neg =>
    have e1 : ((n : Int) != (m : Int)) = true := by simp; omega
    have e2 := Lib.hid (show decide (xs = ys) = false by
      have := hn.out
      have := hm.out
      simp only [decide_eq_false_iff_not]
      rintro rfl
      omega)
    rw [e2.out]
    clear e
    go_enter Tryz.func17, Tryz.ntmps17
    go_wp2_with fail
    go_ret
    exact ⟨rfl, Below.refl _ _⟩
  subst e
  go_enter Tryz.func17, Tryz.ntmps17
  go_wp2_with fail
  go_loopw [5] (fun i wr => ∃ k : Nat, k ≤ n ∧ i = .int .i64 k ∧ xs.take k = ys.take k ∧ Below w.heap.size w wr) (fun i _ => n - (intOf i).toNat)
  case atStart => exact ⟨0, by omega, rfl, rfl, Below.refl _ _⟩
  case round =>
    obtain ⟨k, hk, rfl, ha, hb⟩ := hrel
    replace ha := Lib.hid ha
    by_cases hlt : k < n
    · obtain ⟨x, hx⟩ : ∃ x, xs[k]? = some x := ⟨_, List.getElem?_eq_getElem (by rw [hn.out]; exact hlt)⟩
      obtain ⟨y, hy⟩ : ∃ y, ys[k]? = some y := ⟨_, List.getElem?_eq_getElem (by rw [hm.out]; exact hlt)⟩
      obtain ⟨ad, rfl, hok, hc, _⟩ := HA.out k x hx
      obtain ⟨bd, rfl, hok2, hc2, _⟩ := HB.out k y hy
      replace hx := Lib.hid hx
      replace hy := Lib.hid hy
      replace hc := (hb.cell hok).trans hc
      replace hc2 := (hb.cell hok2).trans hc2
      have i1 : (0 : Int) ≤ (k : Int) := by omega
      have i2 : (k : Int) < (n : Int) := by omega
      have hb' := Lib.hid hb
      clear hb
      by_cases e : x = y
      · have he : (x != y) = false := by simpa using e
        replace e := Lib.hid e
        go_wp2_with fail
        go_quiet (fail)
        go_wp2_with fail
        go_roundw
        case rel => exact ⟨k + 1, by omega, by go_num, take_eq_succ ha.out hx.out hy.out e.out, below_drewN hb'.out _⟩
        case measure => simp [intOf]; omega
      · have he : (x != y) = true := by simpa using e
        have hne := Lib.hid (show decide (xs = ys) = false by
          simp only [decide_eq_false_iff_not]
          exact ne_of_at hx.out hy.out e)
        clear e
        go_wp2_with fail
        go_quiet (fail)
        go_wp2_with fail
        go_ret
        exact ⟨ret_bool hne.out.symm, below_drewN hb'.out _⟩
    · have hge : n ≤ k := by omega
      have he1 : Hid (decide (xs = ys) = true) := Lib.hid (by
        have := ha.out
        rw [List.take_of_length_le (by rw [hn.out]; exact hge), List.take_of_length_le (by rw [hm.out]; exact hge)] at this
        simpa using this)
      have hb' := Lib.hid hb
      clear hb
      go_wp2_with fail
      go_ret
      exact ⟨ret_bool he1.out.symm, hb'.out⟩
end Go.Proofs.YtdaidhbmfocodaaGreat

/-
  The document's answers of layer 3: Same. Conditions: those that each lemma states.
-/
namespace Go.Proofs.YtdaidhbmfocodaaGreat
open Go.RowKit

set_option maxRecDepth 100000 in
set_option maxHeartbeats 4000000 in
theorem refSame_any (v u : Value) (d o : Dk) (w : World) (hv : Dsk (Old w) w v d) (hu : Dsk (Old w) w u o) :
    Calls Tryz.prog 34 #[v, u] w fun e w' => e = .returned (.bool (sameB d o)) ∧ Below w.heap.size w w' := by
  obtain ⟨A, c, B, c', rfl, l1, m1, l2, m2, hA, hB⟩ := hv.open
  obtain ⟨A', g, B', g', rfl, l1', m1', l2', m2', hA', hB'⟩ := hu.open
  have HA := Lib.hid hA
  have HB := Lib.hid hB
  have HA' := Lib.hid hA'
  have HB' := Lib.hid hB'
  clear hA hB hA' hB' hv hu
  obtain ⟨n, hn⟩ : ∃ n, d.1.length = n := ⟨_, rfl⟩
  obtain ⟨m, hm⟩ : ∃ m, d.2.length = m := ⟨_, rfl⟩
  obtain ⟨n', hn'⟩ : ∃ n, o.1.length = n := ⟨_, rfl⟩
  obtain ⟨m', hm'⟩ : ∃ m, o.2.length = m := ⟨_, rfl⟩
  rw [hn] at l1 ⊢
  rw [hm] at l2 ⊢
  rw [hn'] at l1' ⊢
  rw [hm'] at l2' ⊢
  replace hn := Lib.hid hn
  replace hm := Lib.hid hm
  replace hn' := Lib.hid hn'
  replace hm' := Lib.hid hm'
  have hB0 := (((Below.refl w.heap.size w).alloc (Nat.le_refl _) (.cells #[.slice A n c, .slice B m c'] 26)).alloc (by simp) (.cells #[.slice A' n' g, .slice B' m' g'] 26))
  by_cases h1 : n = n'
  · by_cases h2 : m = m'
    · subst h1
      subst h2
      obtain ⟨w0, e0⟩ : ∃ w0, w0 = (w.alloc (.cells #[.slice A n c, .slice B m c'] 26)).alloc (.cells #[.slice A' n g, .slice B' m g'] 26) := ⟨_, rfl⟩
      have f1 : w0.cell? ⟨w.heap.size, 0, none⟩ = some (.slice A n c) := by rw [e0]; simp
      have f2 : w0.cell? ⟨w.heap.size, 1, none⟩ = some (.slice B m c') := by rw [e0]; simp
      have f3 : w0.cell? ⟨w.heap.size + 1, 0, none⟩ = some (.slice A' n g) := by rw [e0]; simp
      have f4 : w0.cell? ⟨w.heap.size + 1, 1, none⟩ = some (.slice B' m g') := by rw [e0]; simp
      have fs : w0.heap.size = w.heap.size + 2 := by rw [e0]; simp
      rw [← e0] at hB0
      replace fs := Lib.hid fs
      go_enter Tryz.func34, Tryz.ntmps34
      go_upto_region 1 with fail
      rw [← e0]
      clear e0
      go_wp2_with fail
      go_loopw [5] (fun i wr => ∃ k : Nat, k ≤ n ∧ i = .int .i64 k ∧ d.1.take k = o.1.take k ∧ Below w0.heap.size w0 wr) (fun i _ => n - (intOf i).toNat)
      case atStart => exact ⟨0, by omega, rfl, rfl, Below.refl _ _⟩
      case round =>
        obtain ⟨k, hk, rfl, ha, hb⟩ := hrel
        replace ha := Lib.hid ha
        have q1 := (hb.cell (p := ⟨w.heap.size, 0, none⟩) (by rw [fs.out]; simp)).trans f1
        have q2 := (hb.cell (p := ⟨w.heap.size + 1, 0, none⟩) (by rw [fs.out]; simp)).trans f3
        by_cases hlt : k < n
        · have hbw := hB0.trans (hb.mono hB0.size)
          obtain ⟨x, hx⟩ : ∃ x, d.1[k]? = some x := ⟨_, List.getElem?_eq_getElem (by rw [hn.out]; exact hlt)⟩
          obtain ⟨y, hy⟩ : ∃ y, o.1[k]? = some y := ⟨_, List.getElem?_eq_getElem (by rw [hn'.out]; exact hlt)⟩
          obtain ⟨ad, v, rfl, hok, hc, hby⟩ := HA.out k x hx
          obtain ⟨bd, u, rfl, hok2, hc2, hby2⟩ := HA'.out k y hy
          replace hx := Lib.hid hx
          replace hy := Lib.hid hy
          replace hc := (hbw.cell hok).trans hc
          replace hc2 := (hbw.cell hok2).trans hc2
          have s1 := rBy_str (stab_by.old hby hbw)
          have s2 := rBy_str (stab_by.old hby2 hbw)
          obtain ⟨E, ce, rfl, _⟩ := rBy_open hby
          obtain ⟨E', ce', rfl, _⟩ := rBy_open hby2
          clear hby hby2
          by_cases e : x = y
          · have he : (x == y) = true := by simpa using e
            replace e := Lib.hid e
            go_wp2_with fail
            go_quiet (fail)
            go_wp2_with fail
            go_roundw
            case rel => exact ⟨k + 1, by omega, by go_num, take_eq_succ ha.out hx.out hy.out e.out, below_drewN hb _⟩
            case measure => simp [intOf]; omega
          · have he : (x == y) = false := by simpa using e
            have hne := Lib.hid (show sameB d o = false by
              unfold sameB
              simp only [decide_eq_false_iff_not]
              exact fun h => ne_of_at hx.out hy.out e (by rw [h]))
            clear e
            go_wp2_with fail
            go_quiet (fail)
            go_wp2_with fail
            go_ret
            exact ⟨ret_bool hne.out.symm, below_drewN hbw _⟩
        · have hge : n ≤ k := by omega
          have he1 : Hid (d.1 = o.1) := Lib.hid (by
            have := ha.out
            rwa [List.take_of_length_le (by rw [hn.out]; exact hge), List.take_of_length_le (by rw [hn'.out]; exact hge)] at this)
          clear ha
          obtain ⟨wo, rfl⟩ : ∃ wo : World, wo = wr := ⟨_, rfl⟩
          go_wp2_with fail
          go_loopw [6] (fun i wr => ∃ k : Nat, k ≤ m ∧ i = .int .i64 k ∧ d.2.take k = o.2.take k ∧ Below w0.heap.size w0 wr) (fun i _ => m - (intOf i).toNat)
          case atStart => exact ⟨0, by omega, rfl, rfl, hb⟩
          case round =>
            clear hb q1 q2
            obtain ⟨k, hk, rfl, ha, hb⟩ := hrel
            replace ha := Lib.hid ha
            have q1 := (hb.cell (p := ⟨w.heap.size, 1, none⟩) (by rw [fs.out]; simp)).trans f2
            have q2 := (hb.cell (p := ⟨w.heap.size + 1, 1, none⟩) (by rw [fs.out]; simp)).trans f4
            have hbw := hB0.trans (hb.mono hB0.size)
            by_cases hlt : k < m
            · obtain ⟨x, hx⟩ : ∃ x, d.2[k]? = some x := ⟨_, List.getElem?_eq_getElem (by rw [hm.out]; exact hlt)⟩
              obtain ⟨y, hy⟩ : ∃ y, o.2[k]? = some y := ⟨_, List.getElem?_eq_getElem (by rw [hm'.out]; exact hlt)⟩
              obtain ⟨ad, v, rfl, hok, hok', hc, hc', hby, _, _⟩ := HB.out k x hx
              obtain ⟨bd, u, rfl, hok2, hok2', hc2, hc2', hby2, _, _⟩ := HB'.out k y hy
              replace hx := Lib.hid hx
              replace hy := Lib.hid hy
              replace hc := (hbw.cell hok).trans hc
              replace hc2 := (hbw.cell hok2).trans hc2
              replace hc' := (hbw.cell hok').trans hc'
              replace hc2' := (hbw.cell hok2').trans hc2'
              rw [add_next] at hc' hc2'
              have s1 := rBy_str (stab_by.old hby hbw)
              have s2 := rBy_str (stab_by.old hby2 hbw)
              obtain ⟨E, ce, rfl, _⟩ := rBy_open hby
              obtain ⟨E', ce', rfl, _⟩ := rBy_open hby2
              clear hby hby2
              by_cases ea : x.1 = y.1
              · by_cases e : x.2 = y.2
                · have hea : (x.1 != y.1) = false := by simpa using ea
                  have he : (x.2 == y.2) = true := by simpa using e
                  have hxy := Lib.hid (show x = y from Prod.ext ea e)
                  clear e ea
                  go_wp2_with fail
                  go_quiet (fail)
                  go_wp2_with fail
                  go_roundw
                  case rel => exact ⟨k + 1, by omega, by go_num, take_eq_succ ha.out hx.out hy.out hxy.out, below_drewN hb _⟩
                  case measure => simp [intOf]; omega
                · have hea : (x.1 != y.1) = false := by simpa using ea
                  have he : (x.2 == y.2) = false := by simpa using e
                  have hne := Lib.hid (show sameB d o = false by
                    unfold sameB
                    simp only [decide_eq_false_iff_not]
                    exact fun h => ne_of_at hx.out hy.out (fun h' => e (by rw [h'])) (by rw [h]))
                  clear e ea
                  go_wp2_with fail
                  go_quiet (fail)
                  go_wp2_with fail
                  go_ret
                  exact ⟨ret_bool hne.out.symm, below_drewN hbw _⟩
              · have hea : (x.1 != y.1) = true := by simpa using ea
                have hne := Lib.hid (show sameB d o = false by
                  unfold sameB
                  simp only [decide_eq_false_iff_not]
                  exact fun h => ne_of_at hx.out hy.out (fun h' => ea (by rw [h'])) (by rw [h]))
                clear ea
                go_wp2_with fail
                go_quiet (fail)
                go_wp2_with fail
                go_ret
                exact ⟨ret_bool hne.out.symm, below_drewN hbw _⟩
            · have hge2 : m ≤ k := by omega
              have he2 : Hid (sameB d o = true) := Lib.hid (by
                have := ha.out
                rw [List.take_of_length_le (by rw [hm.out]; exact hge2), List.take_of_length_le (by rw [hm'.out]; exact hge2)] at this
                unfold sameB
                simp only [decide_eq_true_eq]
                exact Prod.ext he1.out this)
              go_wp2_with fail
              go_ret
              exact ⟨ret_bool he2.out.symm, hbw⟩
    · have hne := Lib.hid (show sameB d o = false by
        unfold sameB
        simp only [decide_eq_false_iff_not]
        intro h
        have := hm.out
        rw [h, hm'.out] at this
        exact h2 this.symm)
      have h1' : ((n : Int) != n') = false := by simp; omega
      have h2' : ((m : Int) != m') = true := by simp; omega
      clear h1 h2
      go_enter Tryz.func34, Tryz.ntmps34
      go_wp2_with fail
      go_ret
      exact ⟨ret_bool hne.out.symm, hB0⟩
  · have hne := Lib.hid (show sameB d o = false by
      unfold sameB
      simp only [decide_eq_false_iff_not]
      intro h
      have := hn.out
      rw [h, hn'.out] at this
      exact h1 this.symm)
    have h1' : ((n : Int) != n') = true := by simp; omega
    clear h1
    go_enter Tryz.func34, Tryz.ntmps34
    go_wp2_with fail
    go_ret
    exact ⟨ret_bool hne.out.symm, hB0⟩
end Go.Proofs.YtdaidhbmfocodaaGreat

/-
  The walk of a drawn region: an operation, and many behind it whose guards do not hold, in one step. No program, no condition but those that each lemma states.
-/
namespace Go.Proofs.YtdaidhbmfocodaaGreat
open Go.RowKit

def skipN : Nat → List Oper → Act → Act
  | 0, _, a => a
  | _ + 1, [], a => a
  | m + 1, o :: r, a => skipN m r (a.put o.dst undef)
def skipsB (ops : Array Oper) : Nat → List Oper → Act → Bool
  | 0, _, _ => true
  | _ + 1, [], _ => false
  | m + 1, o :: r, a => !Region.wanted o (yielded ops a.tmps) && skipsB ops m r (a.put o.dst undef)
section
variable {P : Program} {ops : Array Oper} {C : World → Prop} {phi : Nat → Option (Value → World → Prop)} {fx : Nat → Option Value} {Q : Act → World → Prop}
theorem wpAs_jump : ∀ (m : Nat) {i : Nat} {l : List Oper} {a : Act} {env : Env}, skipsB ops m l a = true → wpAs P ops C phi fx Q (i + m) (l.drop m) (skipN m l a) env → wpAs P ops C phi fx Q i l a env
  | 0, _, _, _, _, _, h => h
  | _ + 1, _, [], _, _, hs, _ => by cases hs
  | m + 1, i, o :: r, a, env, hs, h => by
    simp only [skipsB, Bool.and_eq_true, Bool.not_eq_true'] at hs
    refine wpAs_skip hs.1 (wpAs_jump m hs.2 ?_)
    rw [show i + 1 + m = i + (m + 1) by omega]
    exact h
theorem wpAs_pure_jump {i : Nat} {o : Oper} {rest : List Oper} {a : Act} {env : Env} {v : Value} (m : Nat) (hw : Region.wanted o (yielded ops a.tmps) = true) (hp : phi i = none) (hf : fx i = none)
    (hv : ∀ w, C w → seen ops o w env → (execOp a.eval o).run P w = .ok (.value v) w) (hs : skipsB ops m rest (a.put o.dst v) = true) (h : wpAs P ops C phi fx Q (i + 1 + m) (rest.drop m) (skipN m rest (a.put o.dst v)) env) : wpAs P ops C phi fx Q i (o :: rest) a env :=
  wpAs_pure hw hp hv (wpAs_jump m hs h) hf
end
end Go.Proofs.YtdaidhbmfocodaaGreat

/-
  A region that draws its order, in which a few operations that read slots alone may come up behind a store: they may as well come up ahead of it. No program, no condition of its own.
-/
namespace Go.Proofs.YtdaidhbmfocodaaGreat
open Go.RowKit

section
variable {P : Program} {Q : Exit → Act → World → Prop}
/-- The region with more edges: of each pair, the first waits for the second. -/
def withEdges (ops : Array Oper) (x : List (Nat × Nat)) : Array Oper :=
  (ops.toList.mapIdx fun i o => { o with after := o.after ++ ((x.filter fun e => e.1 == i).map fun e => ({ on := e.2, ground := .phase } : Edge)).toArray }).toArray
theorem withEdges_size (ops : Array Oper) (x : List (Nat × Nat)) : (withEdges ops x).size = ops.size := by simp [withEdges]
theorem withEdges_get (ops : Array Oper) (x : List (Nat × Nat)) (i : Nat) : (withEdges ops x)[i]? = (ops[i]?).map fun o => { o with after := o.after ++ ((x.filter fun e => e.1 == i).map fun e => ({ on := e.2, ground := .phase } : Edge)).toArray } := by
  simp [withEdges]

/-- It reads slots alone. -/
def still (o : Oper) : Bool := o.guard.isNone && match o.op with
  | .move _ => true
  | .extract _ _ => true
  | _ => false
/-- All others are apart from it, but those for which it waits, and those that wait for it. -/
def freeBut (ops : Array Oper) (i : Nat) (p : Oper) : Bool := (List.range ops.size).all fun j => j == i || (p.after.any fun d => Region.binds .any d && d.on == j) || match ops[j]? with
  | some oj => oj.after.any (fun e => Region.binds .any e && e.on == i) || p.apart ops oj
  | none => true
def okLate (ops : Array Oper) (x : List (Nat × Nat)) : Bool :=
  Region.noSelect ops && x.all fun e => match ops[e.1]?, ops[e.2]? with
    | some t, some p => still p && freeBut ops e.2 p && x.all (fun e' => e'.1 != e.2) && p.after.all fun d => !Region.binds .any d || t.after.any fun d' => Region.binds .any d' && d'.on == d.on
    | _, _ => false

theorem still_step {ops ops' : Array Oper} {o : Oper} {p : Nat} {K : Act → World → Prop} {a : Act} {w : World} (ho : ops'[p]? = some o) (hs : still o = true) (h : wpOp P ops' Q p K a w) : ∃ v, Yields P ops o v a ∧ K (a.put o.dst v) w := by
  unfold still at hs
  rw [Bool.and_eq_true] at hs
  obtain ⟨hg, hk⟩ := hs
  have hg' : o.guard = none := by simpa using hg
  have hw : ∀ q, Region.wanted o (yielded q a.tmps) = true := fun q => by simp [Region.wanted, hg']
  unfold wpOp at h
  rw [ho] at h
  simp only [hw, if_true] at h
  cases hop : o.op with
  | move x =>
    have hr : ∀ w, (execOp a.eval o).run P w = .ok (.value (a.eval x)) w := fun w => by unfold execOp; rw [hop]; rfl
    have hT : ((execOp a.eval o).runT P w #[]).2 = #[] := by unfold execOp; rw [hop]; rfl
    refine ⟨a.eval x, .inl ⟨hw _, hr⟩, ?_⟩
    rcases h with h | ⟨h, _⟩
    · unfold Oper.wp at h
      rw [hr w] at h
      exact h
    · unfold Oper.asks at h
      rw [hT] at h
      simp at h
  | extract x i =>
    have key : (∃ v, ∀ w, (execOp a.eval o).run P w = .ok (.value v) w) ∨ (∃ m, ∀ w, (execOp a.eval o).run P w = .halt (.stuck m) w) := by
      unfold execOp
      rw [hop]
      dsimp only
      unfold Instr.extract
      cases a.eval x with
      | tuple vs =>
        dsimp only
        cases vs[i]? with
        | none => exact .inr ⟨_, fun _ => rfl⟩
        | some u => exact .inl ⟨u, fun _ => rfl⟩
      | _ => exact .inr ⟨_, fun _ => rfl⟩
    have hT : ((execOp a.eval o).runT P w #[]).2 = #[] := by
      unfold execOp
      rw [hop]
      dsimp only
      unfold Instr.extract
      cases a.eval x with
      | tuple vs =>
        dsimp only
        cases vs[i]? <;> rfl
      | _ => rfl
    rcases h with h | ⟨h, _⟩
    · unfold Oper.wp at h
      rcases key with ⟨v, hr⟩ | ⟨m, hr⟩
      · rw [hr w] at h
        exact ⟨v, .inl ⟨hw _, hr⟩, h⟩
      · rw [hr w] at h
        exact h.elim
    · unfold Oper.asks at h
      rw [hT] at h
      simp at h
  | _ => rw [hop] at hk; cases hk

theorem yielded_with (ops : Array Oper) (x : List (Nat × Nat)) (tmps : Array Value) : yielded (withEdges ops x) tmps = yielded ops tmps := by
  funext j
  unfold yielded
  rw [withEdges_get]
  cases ops[j]? <;> rfl
theorem wpOp_with {ops : Array Oper} {x : List (Nat × Nat)} {i : Nat} {K K' : Act → World → Prop} {a : Act} {w : World} (hK : ∀ a w, K a w → K' a w) (h : wpOp P (withEdges ops x) Q i K a w) : wpOp P ops Q i K' a w := by
  refine wpOp_mono hK ?_
  unfold wpOp at h ⊢
  rw [withEdges_get, yielded_with] at h
  cases ho : ops[i]? with
  | none => rw [ho] at h; exact h
  | some o => rw [ho] at h; exact h

theorem free_any {ops : Array Oper} {i : Nat} {p : Oper} (hp : ops[i]? = some p) (h : freeBut ops i p = true) (listed : Array Bool) (hl : ∀ d ∈ p.after, Region.binds .any d = true → listed.getD d.on false = true) : Region.free .any ops listed i = true := by
  unfold Region.free
  unfold freeBut at h
  rw [hp]
  dsimp only
  rw [List.all_eq_true] at h ⊢
  intro j hj
  have h1 := h j hj
  rw [Bool.or_eq_true, Bool.or_eq_true] at h1 ⊢
  rcases h1 with (h1 | h1) | h1
  · exact .inl (.inl h1)
  · obtain ⟨d, hd, hx⟩ := Array.any_eq_true'.1 h1
    simp only [Bool.and_eq_true, beq_iff_eq] at hx
    have h2 := hl d hd hx.1
    rw [hx.2] at h2
    refine .inl (.inr ?_)
    by_cases hlt : j < listed.size
    · simpa [Array.getD, hlt] using h2
    · simp [Array.getD, hlt]
  · exact .inr h1

structure Late (ops : Array Oper) (x : List (Nat × Nat)) : Prop where
  plain : Region.noSelect ops = true
  each : ∀ e ∈ x, ∃ t p, ops[e.1]? = some t ∧ ops[e.2]? = some p ∧ still p = true ∧ (∀ listed : Array Bool, (∀ d ∈ p.after, Region.binds .any d = true → listed.getD d.on false = true) → Region.free .any ops listed e.2 = true) ∧ (∀ e' ∈ x, e'.1 ≠ e.2) ∧ ∀ d ∈ p.after, Region.binds .any d = true → ∃ d' ∈ t.after, Region.binds .any d' = true ∧ d'.on = d.on
theorem late_of {ops : Array Oper} {x : List (Nat × Nat)} (h : okLate ops x = true) : Late ops x := by
  unfold okLate at h
  rw [Bool.and_eq_true, List.all_eq_true] at h
  refine ⟨h.1, fun e he => ?_⟩
  have h1 := h.2 e he
  cases ht : ops[e.1]? with
  | none => rw [ht] at h1; cases h1
  | some t =>
    cases hp : ops[e.2]? with
    | none => rw [ht, hp] at h1; cases h1
    | some p =>
      rw [ht, hp] at h1
      simp only [Bool.and_eq_true, List.all_eq_true] at h1
      obtain ⟨⟨⟨h2, h3⟩, h4⟩, h5⟩ := h1
      refine ⟨t, p, rfl, rfl, h2, free_any hp h3, fun e' he' => by simpa using h4 e' he', fun d hd hb => ?_⟩
      have := Array.all_eq_true_iff_forall_mem.1 h5 d hd
      rw [hb] at this
      simp only [Bool.not_true, Bool.false_or] at this
      obtain ⟨d', hd', hx⟩ := Array.any_eq_true'.1 this
      simp only [Bool.and_eq_true, beq_iff_eq] at hx
      exact ⟨d', hd', hx.1, hx.2⟩

theorem ready_less {ops : Array Oper} {x : List (Nat × Nat)} {listed : Array Bool} {i : Nat} (h : i ∈ Region.ready .any (withEdges ops x) listed) : i ∈ Region.ready .any ops listed := by
  obtain ⟨h1, o', ho, h2⟩ := mem_ready.1 h
  rw [withEdges_get] at ho
  cases hq : ops[i]? with
  | none => rw [hq] at ho; cases ho
  | some o =>
    rw [hq] at ho
    cases ho
    exact mem_ready.2 ⟨h1, o, hq, fun e he hb => h2 e (Array.mem_append.2 (.inl he)) hb⟩
/-- What may come up, and is held back by the edges that were added, is held back by one that may come up itself. -/
theorem ready_more {ops : Array Oper} {x : List (Nat × Nat)} (hx : Late ops x) {listed : Array Bool} (hsz : listed.size = ops.size) {i : Nat} (h : i ∈ Region.ready .any ops listed) (hn : i ∉ Region.ready .any (withEdges ops x) listed) : ∃ e ∈ x, e.2 ∈ Region.ready .any ops listed := by
  obtain ⟨h1, o, ho, h2⟩ := mem_ready.1 h
  have h3 : ∃ e ∈ x, e.1 = i ∧ listed.getD e.2 false ≠ true := by
    refine Classical.byContradiction fun hc => hn (mem_ready.2 ⟨h1, _, by rw [withEdges_get, ho]; rfl, fun e he hb => ?_⟩)
    rcases Array.mem_append.1 he with he | he
    · exact h2 e he hb
    · simp only [List.mem_toArray, List.mem_map, List.mem_filter, beq_iff_eq] at he
      obtain ⟨e', ⟨he', hi⟩, rfl⟩ := he
      exact Classical.byContradiction fun hl => hc ⟨e', he', hi, hl⟩
  obtain ⟨e, he, rfl, hl⟩ := h3
  obtain ⟨t, p, ht, hp, _, _, _, h5⟩ := hx.each e he
  rw [ho] at ht
  cases ht
  refine ⟨e, he, mem_ready.2 ⟨?_, p, hp, fun d hd hb => ?_⟩⟩
  · have hlt : e.2 < ops.size := (Array.getElem?_eq_some_iff.1 hp).1
    have hlt' : e.2 < listed.size := by omega
    have e1 : listed.getD e.2 false = listed[e.2] := by simp [Array.getD, hlt']
    have e2 : listed.getD e.2 true = listed[e.2] := by simp [Array.getD, hlt']
    rw [e1] at hl
    rw [e2]
    simpa using hl
  · obtain ⟨d', hd', hb', e2⟩ := h5 d hd hb
    rw [← e2]
    exact h2 d' hd' hb'

/-- What is so with the edges added is so without them. -/
theorem wpAny_with {ops : Array Oper} {x : List (Nat × Nat)} (hx : Late ops x) (hQ : ∀ d v c a w, Q (.panic c) (Act.put a d v) w → Q (.panic c) a w) : ∀ (fuel : Nat) (listed : Array Bool) (a : Act) (w : World), listed.size = ops.size →
    wpAny P .any (withEdges ops x) Q fuel listed a w → wpAny P .any ops Q fuel listed a w
  | 0, listed, a, w, hsz, h => by
    refine ⟨List.eq_nil_iff_forall_not_mem.2 fun i hi => ?_, h.2⟩
    have hno : ∀ j, j ∉ Region.ready .any (withEdges ops x) listed := fun j hj => by rw [h.1] at hj; cases hj
    obtain ⟨e, he, hr⟩ := ready_more hx hsz hi (hno i)
    obtain ⟨_, _, _, _, _, _, h4, _⟩ := hx.each e he
    refine Classical.byContradiction fun _ => hno e.2 (Classical.byContradiction fun hn => ?_)
    obtain ⟨l1, o, ho, l2⟩ := mem_ready.1 hr
    refine hn (mem_ready.2 ⟨l1, _, by rw [withEdges_get, ho]; rfl, fun d hd hb => ?_⟩)
    rcases Array.mem_append.1 hd with hd | hd
    · exact l2 d hd hb
    · simp only [List.mem_toArray, List.mem_map, List.mem_filter, beq_iff_eq] at hd
      obtain ⟨e', ⟨he', hi'⟩, rfl⟩ := hd
      exact absurd hi' (h4 e' he')
  | fuel + 1, listed, a, w, hsz, h => by
    obtain ⟨h1, h2⟩ := h
    have hsz' : ∀ i, (listed.setIfInBounds i true).size = ops.size := fun i => by simp [hsz]
    have same : ∀ e ∈ x, e.2 ∈ Region.ready .any ops listed → e.2 ∈ Region.ready .any (withEdges ops x) listed := fun e he hr => by
      obtain ⟨_, _, _, _, _, _, h4, _⟩ := hx.each e he
      obtain ⟨l1, o, ho, l2⟩ := mem_ready.1 hr
      refine mem_ready.2 ⟨l1, _, by rw [withEdges_get, ho]; rfl, fun d hd hb => ?_⟩
      rcases Array.mem_append.1 hd with hd | hd
      · exact l2 d hd hb
      · simp only [List.mem_toArray, List.mem_map, List.mem_filter, beq_iff_eq] at hd
        obtain ⟨e', ⟨he', hi'⟩, rfl⟩ := hd
        exact absurd hi' (h4 e' he')
    by_cases hex : ∃ e ∈ x, e.2 ∈ Region.ready .any ops listed
    · obtain ⟨e, he, hr⟩ := hex
      obtain ⟨t, p, _, hp, hs, hf, h4, _⟩ := hx.each e he
      have hw := h2 e.2 (same e he hr)
      have hp' : (withEdges ops x)[e.2]? = some p := by
        rw [withEdges_get, hp]
        have : x.filter (fun e' => e'.1 == e.2) = [] := List.filter_eq_nil_iff.2 fun e' he' => by simpa using h4 e' he'
        simp [this]
      obtain ⟨v, hy, hk⟩ := still_step (ops := ops) hp' hs hw
      obtain ⟨_, p', hp2, hl2⟩ := mem_ready.1 hr
      rw [hp] at hp2
      cases hp2
      refine wpAny_take (i := e.2) (v := v) hp hx.plain (hf listed hl2) (by simpa using hr) (fun c a w hq => hQ _ _ _ _ _ hq) hy ?_
      exact wpAny_with hx hQ fuel _ _ _ (hsz' _) hk
    · have hin : ∀ i, i ∈ Region.ready .any ops listed → i ∈ Region.ready .any (withEdges ops x) listed := fun i hi =>
        Classical.byContradiction fun hn => hex (ready_more hx hsz hi hn)
      refine ⟨fun h0 => h1 (List.eq_nil_iff_forall_not_mem.2 fun i hi => ?_), fun i hi => ?_⟩
      · have := ready_less hi
        rw [h0] at this
        cases this
      · exact wpOp_with (fun a w hk => wpAny_with hx hQ fuel _ a w (hsz' i) hk) (h2 i (hin i hi))

theorem wpAny_tails {ops : Array Oper} {a : Act} {w : World} (m : Nat) (C : World → Prop) (phi : Nat → Option (Value → World → Prop)) (fx : Nat → Option Value) (hms : m ≤ ops.size) (hok : okAs (ops.toList.take m).toArray a.tmps.size = true) (hlast : okTails ops m = true)
    (hC : C w.drew) (hCb : ∀ w w', C w → Below w.heap.size w w' → C w') (hst : ∀ (j : Nat) (φ : Value → World → Prop) (x : Value) (w w' : World), phi j = some φ → φ x w → Below w.heap.size w w' → φ x w')
    (h : wpAs P (ops.toList.take m).toArray C phi fx (fun a w => wpList P ops Q (ops.toList.drop m) a w) 0 (ops.toList.take m) a []) : wpAny P .any ops Q ops.size (Array.replicate ops.size false) a w.drew := by
  have e : (ops.toList.take m ++ ops.toList.drop m).toArray = ops := by rw [List.take_append_drop]
  have hl1 : (ops.toList.take m).length = m := by simp; omega
  have hl2 : (ops.toList.take m).length + (ops.toList.drop m).length = ops.size := by simp; omega
  unfold okTails at hlast
  rw [Bool.and_eq_true, List.all_eq_true, List.all_eq_true] at hlast
  have key := wpAny_tail (P := P) (Q := Q) ops (ops.toList.drop m) (ops.toList.take m) (fun j h0 hj => by
    have hj' : j ≤ ops.size - m := by simpa using hj
    have := hlast.1 (j - 1) (List.mem_range.2 (by omega))
    rw [show m + (j - 1 + 1) = m + j by omega, List.take_add] at this
    exact okLast_of this) (fun o ho => by simpa using hlast.2 o ho) a w.drew
  rw [hl2, e] at key
  refine key ?_
  rw [hl1]
  have hg : ∀ i, (Array.replicate m false).getD i false = false := fun i => by
    by_cases hi : i < m
    · simp [Array.getD]
    · simp [Array.getD]
  have hsz : (ops.toList.take m).toArray.size = m := by simpa using hl1
  have h' : wpAs P (ops.toList.take m).toArray C phi fx (fun a w => wpList P ops Q (ops.toList.drop m) a w) 0 (ops.toList.take m).toArray.toList a [] := h
  refine wpAny_of_as (Q := fun a w => wpList P ops Q (ops.toList.drop m) a w) (a0 := a) (ok_of hok) h' hCb hst (fun a w hq => hq) _ _ (fun _ => undef) a w.drew ?_ ⟨by rw [hsz]; simp, rfl, rfl, ?_, ?_, fun _ _ => rfl, hC, ?_, ?_⟩
  · unfold left
    exact Nat.le_trans (List.length_filter_le _ _) (by simp; omega)
  · intro i o _ hl
    rw [hg i] at hl
    cases hl
  · intro i o d _ hl
    rw [hg i] at hl
    cases hl
  · intro c _ i hl
    rw [hg i] at hl
    cases hl
  · intro c _ i o φ _ hl
    rw [hg i] at hl
    cases hl
/-- THE LAW: the operations ahead of place m in whatever order, the others one after another; those of x may come up behind a store, too. -/
theorem wp_region_late {id : Nat} {ops ops' : Array Oper} {a : Act} {w : World} (hm : P.follows .mixedOrders = true) (x : List (Nat × Nat)) (he : withEdges ops x = ops') (hx : okLate ops x = true) (hQ : ∀ d v c a w, Q (.panic c) (Act.put a d v) w → Q (.panic c) a w)
    (m : Nat) (C : World → Prop) (phi : Nat → Option (Value → World → Prop)) (fx : Nat → Option Value) (hms : m ≤ ops'.size) (hok : okAs (ops'.toList.take m).toArray a.tmps.size = true) (hlast : okTails ops' m = true)
    (hC : C w.drew) (hCb : ∀ w w', C w → Below w.heap.size w w' → C w') (hst : ∀ (j : Nat) (φ : Value → World → Prop) (x : Value) (w w' : World), phi j = some φ → φ x w → Below w.heap.size w w' → φ x w')
    (h : wpAs P (ops'.toList.take m).toArray C phi fx (fun a w => wpList P ops' Q (ops'.toList.drop m) a w) 0 (ops'.toList.take m) a []) : (Code.region id ops true).wp P Q a w := by
  refine wp_region_any hm ?_
  refine wpAny_with (late_of hx) hQ _ _ _ _ (by simp) ?_
  have e2 : ops'.size = ops.size := by rw [← he]; exact withEdges_size _ _
  have key := wpAny_tails m C phi fx hms hok hlast hC hCb hst h
  rw [e2] at key
  rw [he]
  exact key
end
end Go.Proofs.YtdaidhbmfocodaaGreat

/-
  A region that draws its order, whatever relation its operations keep between worlds, stores into boxes of its own among them: each operation is shown once, in the order of the text, from what the operations say on which it leans; then every order serves. No program, no condition of its own.
-/
namespace Go.Proofs.YtdaidhbmfocodaaGreat.Rb
open Go.RowKit

abbrev Env := List (Option Tmp × (World → Prop))
/-- What an operation does: R holds of the value that it leaves and of the world behind it. -/
def doesUpon (P : Program) (R : Value → World → Prop) : Result Next → Prop
  | .ok (.value v) w' => R v w'
  | .ok .skip w' => R undef w'
  | .ok (.enter f args) w' => Calls P f args w' (fun e w'' => ∃ v, e = .returned v ∧ R v w'')
  | _ => False
/-- Of what is known of slots, that which operation o may lean on. -/
def seen (ops : Array Oper) (o : Oper) (w : World) : Env → Prop
  | [] => True
  | p :: r => (∀ d, p.1 = some d → (o.looksAt ops).contains d = true → p.2 w) ∧ seen ops o w r
def envAdd (d : Option Tmp) (p : World → Prop) (env : Env) : Env := (d, p) :: env
def holds (w : World) : Env → Prop
  | [] => True
  | p :: r => p.2 w ∧ holds w r

/-- The walk in the order of the text. -/
def wpAs (Kr : World → World → Prop) (P : Program) (ops : Array Oper) (C : World → Prop) (phi : Nat → Option (Value → World → Prop)) (fx : Nat → Option Value) (Q : Act → World → Prop) : Nat → List Oper → Act → Env → Prop
  | _, [], a, env => ∀ w, C w → holds w env → Q a w
  | i, o :: rest, a, env =>
    if Region.wanted o (yielded ops a.tmps) = true then
      match phi i with
      | none =>
        match fx i with
        | none => ∃ v, (∀ w, C w → seen ops o w env → (execOp a.eval o).run P w = .ok (.value v) w) ∧ wpAs Kr P ops C phi fx Q (i + 1) rest (a.put o.dst v) env
        | some u => (∀ w, C w → seen ops o w env → doesUpon P (fun v w' => v = u ∧ Kr w w') ((execOp a.eval o).run P w)) ∧ wpAs Kr P ops C phi fx Q (i + 1) rest (a.put o.dst u) env
      | some φ => (∀ w, C w → seen ops o w env → doesUpon P (fun v w' => φ v w' ∧ Kr w w') ((execOp a.eval o).run P w)) ∧
          ∀ v, wpAs Kr P ops C phi fx Q (i + 1) rest (a.put o.dst v) (envAdd o.dst (φ v) env)
    else wpAs Kr P ops C phi fx Q (i + 1) rest (a.put o.dst undef) env

section
variable {Kr : World → World → Prop} {P : Program} {ops : Array Oper} {C : World → Prop} {phi : Nat → Option (Value → World → Prop)} {fx : Nat → Option Value} {Q : Act → World → Prop}

theorem wpAs_skip {i : Nat} {o : Oper} {rest : List Oper} {a : Act} {env : Env} (hw : Region.wanted o (yielded ops a.tmps) = false) (h : wpAs Kr P ops C phi fx Q (i + 1) rest (a.put o.dst undef) env) : wpAs Kr P ops C phi fx Q i (o :: rest) a env := by
  unfold wpAs
  rw [if_neg (by rw [hw]; exact Bool.false_ne_true)]
  exact h
theorem wpAs_fixed {i : Nat} {o : Oper} {rest : List Oper} {a : Act} {env : Env} {u : Value} (hw : Region.wanted o (yielded ops a.tmps) = true) (hp : phi i = none) (hf : fx i = some u)
    (hv : ∀ w, C w → seen ops o w env → doesUpon P (fun v w' => v = u ∧ Kr w w') ((execOp a.eval o).run P w)) (h : wpAs Kr P ops C phi fx Q (i + 1) rest (a.put o.dst u) env) : wpAs Kr P ops C phi fx Q i (o :: rest) a env := by
  unfold wpAs
  rw [if_pos hw, hp]
  simp only [hf]
  exact ⟨hv, h⟩
theorem wpAs_pure {i : Nat} {o : Oper} {rest : List Oper} {a : Act} {env : Env} {v : Value} (hw : Region.wanted o (yielded ops a.tmps) = true) (hp : phi i = none)
    (hv : ∀ w, C w → seen ops o w env → (execOp a.eval o).run P w = .ok (.value v) w) (h : wpAs Kr P ops C phi fx Q (i + 1) rest (a.put o.dst v) env) (hf : fx i = none := by rfl) : wpAs Kr P ops C phi fx Q i (o :: rest) a env := by
  unfold wpAs
  rw [if_pos hw, hp]
  simp only [hf]
  exact ⟨v, hv, h⟩
theorem wpAs_act {i : Nat} {o : Oper} {rest : List Oper} {a : Act} {env : Env} {φ : Value → World → Prop} (hw : Region.wanted o (yielded ops a.tmps) = true) (hp : phi i = some φ)
    (hv : ∀ w, C w → seen ops o w env → doesUpon P (fun v w' => φ v w' ∧ Kr w w') ((execOp a.eval o).run P w)) (h : ∀ v, wpAs Kr P ops C phi fx Q (i + 1) rest (a.put o.dst v) (envAdd o.dst (φ v) env)) : wpAs Kr P ops C phi fx Q i (o :: rest) a env := by
  unfold wpAs
  rw [if_pos hw, hp]
  exact ⟨hv, h⟩
theorem wpAs_end {i : Nat} {a : Act} {env : Env} (h : ∀ w, C w → holds w env → Q a w) : wpAs Kr P ops C phi fx Q i [] a env := h

/-! ### The frames of the walk, once the acting operations' values are given -/
open Classical in
/-- The value that operation i leaves in the walk's frame. -/
noncomputable def valAs (Kr : World → World → Prop) (P : Program) (ops : Array Oper) (C : World → Prop) (phi : Nat → Option (Value → World → Prop)) (fx : Nat → Option Value) (Q : Act → World → Prop) (c : Nat → Value) (i : Nat) (o : Oper) (s : Act × Env) : Value :=
  if Region.wanted o (yielded ops s.1.tmps) = true then
    match phi i with
    | none =>
      match fx i with
      | some u => u
      | none => Classical.epsilon fun v => (∀ w, C w → seen ops o w s.2 → (execOp s.1.eval o).run P w = .ok (.value v) w) ∧ wpAs Kr P ops C phi fx Q (i + 1) (ops.toList.drop (i + 1)) (s.1.put o.dst v) s.2
    | some _ => c i
  else undef
noncomputable def envAs (ops : Array Oper) (phi : Nat → Option (Value → World → Prop)) (c : Nat → Value) (i : Nat) (o : Oper) (s : Act × Env) : Env :=
  if Region.wanted o (yielded ops s.1.tmps) = true then
    match phi i with
    | none => s.2
    | some φ => envAdd o.dst (φ (c i)) s.2
  else s.2
noncomputable def stAs (Kr : World → World → Prop) (P : Program) (ops : Array Oper) (C : World → Prop) (phi : Nat → Option (Value → World → Prop)) (fx : Nat → Option Value) (Q : Act → World → Prop) (a0 : Act) (c : Nat → Value) : Nat → Act × Env
  | 0 => (a0, [])
  | i + 1 =>
    match ops[i]? with
    | some o => ((stAs Kr P ops C phi fx Q a0 c i).1.put o.dst (valAs Kr P ops C phi fx Q c i o (stAs Kr P ops C phi fx Q a0 c i)), envAs ops phi c i o (stAs Kr P ops C phi fx Q a0 c i))
    | none => stAs Kr P ops C phi fx Q a0 c i

theorem stAs_walk {a0 : Act} (h0 : wpAs Kr P ops C phi fx Q 0 ops.toList a0 []) (c : Nat → Value) : ∀ i, i ≤ ops.size →
    wpAs Kr P ops C phi fx Q i (ops.toList.drop i) (stAs Kr P ops C phi fx Q a0 c i).1 (stAs Kr P ops C phi fx Q a0 c i).2 := by
  intro i
  induction i with
  | zero => intro _; simpa [stAs] using h0
  | succ i ih =>
    intro hi
    have h := ih (by omega)
    have hd : ops.toList.drop i = ops[i]'(by omega) :: ops.toList.drop (i + 1) := by
      rw [List.drop_eq_getElem_cons (by simp; omega)]
      simp
    have ho : ops[i]? = some (ops[i]'(by omega)) := Array.getElem?_eq_getElem (by omega)
    rw [hd] at h
    generalize hs : stAs Kr P ops C phi fx Q a0 c i = s at *
    generalize ops[i]'(by omega) = o at *
    have e1 : stAs Kr P ops C phi fx Q a0 c (i + 1) = (s.1.put o.dst (valAs Kr P ops C phi fx Q c i o s), envAs ops phi c i o s) := by
      simp only [stAs, ho, hs]
    rw [e1]
    unfold wpAs at h
    unfold valAs envAs
    by_cases hw : Region.wanted o (yielded ops s.1.tmps) = true
    · simp only [if_pos hw] at h ⊢
      cases hp : phi i with
      | none =>
        cases hf : fx i with
        | none =>
          simp only [hp, hf] at h ⊢
          exact (Classical.epsilon_spec h).2
        | some u =>
          simp only [hp, hf] at h ⊢
          exact h.2
      | some φ =>
        simp only [hp] at h ⊢
        exact h.2 _
    · simp only [if_neg hw] at h ⊢
      exact h

/-- What an unacting operation that is wanted leaves, and where. -/
theorem valAs_pure {a0 : Act} (h0 : wpAs Kr P ops C phi fx Q 0 ops.toList a0 []) (c : Nat → Value) {i : Nat} {o : Oper} (ho : ops[i]? = some o) (hw : Region.wanted o (yielded ops (stAs Kr P ops C phi fx Q a0 c i).1.tmps) = true) (hp : phi i = none) (hf : fx i = none) :
    ∀ w, C w → seen ops o w (stAs Kr P ops C phi fx Q a0 c i).2 → (execOp (stAs Kr P ops C phi fx Q a0 c i).1.eval o).run P w = .ok (.value (valAs Kr P ops C phi fx Q c i o (stAs Kr P ops C phi fx Q a0 c i))) w := by
  have hi : i < ops.size := (Array.getElem?_eq_some_iff.1 ho).1
  have h := stAs_walk h0 c i (by omega)
  have hd : ops.toList.drop i = o :: ops.toList.drop (i + 1) := by
    rw [List.drop_eq_getElem_cons (by simp; omega)]
    have := (Array.getElem?_eq_some_iff.1 ho).2
    simp [this]
  rw [hd] at h
  unfold wpAs at h
  simp only [if_pos hw, hp, hf] at h
  unfold valAs
  simp only [if_pos hw, hp, hf]
  exact (Classical.epsilon_spec h).1
/-- What one of a given value leaves. -/
theorem valAs_fixed {a0 : Act} (h0 : wpAs Kr P ops C phi fx Q 0 ops.toList a0 []) (c : Nat → Value) {i : Nat} {o : Oper} (ho : ops[i]? = some o) (hw : Region.wanted o (yielded ops (stAs Kr P ops C phi fx Q a0 c i).1.tmps) = true) (hp : phi i = none) {u : Value} (hf : fx i = some u) :
    ∀ w, C w → seen ops o w (stAs Kr P ops C phi fx Q a0 c i).2 → doesUpon P (fun v w' => v = u ∧ Kr w w') ((execOp (stAs Kr P ops C phi fx Q a0 c i).1.eval o).run P w) := by
  have hi : i < ops.size := (Array.getElem?_eq_some_iff.1 ho).1
  have h := stAs_walk h0 c i (by omega)
  have hd : ops.toList.drop i = o :: ops.toList.drop (i + 1) := by
    rw [List.drop_eq_getElem_cons (by simp; omega)]
    have := (Array.getElem?_eq_some_iff.1 ho).2
    simp [this]
  rw [hd] at h
  unfold wpAs at h
  simp only [if_pos hw, hp, hf] at h
  exact h.1
theorem valAs_act {a0 : Act} (h0 : wpAs Kr P ops C phi fx Q 0 ops.toList a0 []) (c : Nat → Value) {i : Nat} {o : Oper} {φ : Value → World → Prop} (ho : ops[i]? = some o) (hw : Region.wanted o (yielded ops (stAs Kr P ops C phi fx Q a0 c i).1.tmps) = true) (hp : phi i = some φ) :
    ∀ w, C w → seen ops o w (stAs Kr P ops C phi fx Q a0 c i).2 → doesUpon P (fun v w' => φ v w' ∧ Kr w w') ((execOp (stAs Kr P ops C phi fx Q a0 c i).1.eval o).run P w) := by
  have hi : i < ops.size := (Array.getElem?_eq_some_iff.1 ho).1
  have h := stAs_walk h0 c i (by omega)
  have hd : ops.toList.drop i = o :: ops.toList.drop (i + 1) := by
    rw [List.drop_eq_getElem_cons (by simp; omega)]
    have := (Array.getElem?_eq_some_iff.1 ho).2
    simp [this]
  rw [hd] at h
  unfold wpAs at h
  simp only [if_pos hw, hp] at h
  exact h.1

/-! ### What is asked of the region: by looking -/
/-- i leans on j. -/
def leans (ops : Array Oper) (i j : Nat) : Bool := ((ops[i]?).map fun o => o.after.any fun e => Region.binds .any e && e.on == j).getD false
def okAs (ops : Array Oper) (size : Nat) : Bool :=
  Region.noSelect ops &&
  ((List.range ops.size).all fun i => match ops[i]? with
    | none => true
    | some o => (o.after.all fun e => !Region.binds .any e || decide (e.on < i)) &&
      (match o.dst with | some d => decide (d < size) | none => true) &&
      ((List.range ops.size).all fun j => match ops[j]? with
        | none => true
        | some o' => (j == i || o'.dst == none || o'.dst != o.dst) &&
          (match o'.dst with | some d => !(o.looksAt ops).contains d || leans ops i j || leans ops j i || j == i | none => true)))

structure Ok (ops : Array Oper) (size : Nat) : Prop where
  sel : Region.noSelect ops = true
  less : ∀ (i : Nat) (o : Oper), ops[i]? = some o → ∀ e ∈ o.after, Region.binds .any e = true → e.on < i
  inb : ∀ (i : Nat) (o : Oper) (d : Tmp), ops[i]? = some o → o.dst = some d → d < size
  apart : ∀ (i j : Nat) (o o' : Oper) (d : Tmp), ops[i]? = some o → ops[j]? = some o' → o.dst = some d → o'.dst = some d → i = j
  edge : ∀ (i j : Nat) (o o' : Oper) (d : Tmp), ops[i]? = some o → ops[j]? = some o' → o'.dst = some d → d ∈ o.looksAt ops → leans ops i j = true ∨ leans ops j i = true ∨ j = i

theorem ok_of {size : Nat} (h : okAs ops size = true) : Ok ops size := by
  unfold okAs at h
  rw [Bool.and_eq_true, List.all_eq_true] at h
  obtain ⟨hs, h⟩ := h
  have hl : ∀ {i : Nat} {o : Oper}, ops[i]? = some o → i < ops.size := fun ho => (Array.getElem?_eq_some_iff.1 ho).1
  have H : ∀ (i : Nat) (o : Oper), ops[i]? = some o → (o.after.all fun e => !Region.binds .any e || decide (e.on < i)) = true ∧ (match o.dst with | some d => decide (d < size) | none => true) = true ∧
      ∀ (j : Nat) (o' : Oper), ops[j]? = some o' → (j == i || o'.dst == none || o'.dst != o.dst) = true ∧ (match o'.dst with | some d => !(o.looksAt ops).contains d || leans ops i j || leans ops j i || j == i | none => true) = true := by
    intro i o ho
    have h1 := h i (List.mem_range.2 (hl ho))
    simp only [ho, Bool.and_eq_true] at h1
    obtain ⟨⟨ha, hb⟩, hc⟩ := h1
    refine ⟨ha, hb, fun j o' ho' => ?_⟩
    have h2 := List.all_eq_true.1 hc j (List.mem_range.2 (hl ho'))
    simp only [ho', Bool.and_eq_true] at h2
    exact h2
  refine ⟨hs, fun i o ho e he hb => ?_, fun i o d ho hd => ?_, fun i j o o' d ho ho' hd hd' => ?_, fun i j o o' d ho ho' hd' hm => ?_⟩
  · have := Array.all_eq_true_iff_forall_mem.1 (H i o ho).1 e he
    simpa [hb] using this
  · have := (H i o ho).2.1
    simpa [hd] using this
  · have := ((H i o ho).2.2 j o' ho').1
    simp [hd, hd'] at this
    exact this.symm
  · have := ((H i o ho).2.2 j o' ho').2
    simp only [hd', Bool.or_eq_true, Bool.not_eq_true', beq_iff_eq] at this
    rcases this with ((h1 | h1) | h1) | h1
    · rw [List.contains_iff_mem.2 hm] at h1; cases h1
    · exact .inl h1
    · exact .inr (.inl h1)
    · exact .inr (.inr h1)

/-! ### The frames -/
theorem put_size (a : Act) (d : Option Tmp) (v : Value) : (a.put d v).tmps.size = a.tmps.size := by
  cases d <;> simp [Act.put]
theorem put_defers' (a : Act) (d : Option Tmp) (v : Value) : (a.put d v).defers = a.defers := by
  cases d <;> rfl
theorem put_other (a : Act) (d : Option Tmp) (v : Value) (t : Tmp) (h : d ≠ some t) : (a.put d v).tmps.getD t undef = a.tmps.getD t undef := by
  cases d with
  | none => rfl
  | some d =>
    have hne : d ≠ t := fun e => h (by rw [e])
    simp [Act.put, Array.getElem?_setIfInBounds_ne hne]
theorem put_here (a : Act) (d : Tmp) (v : Value) (h : d < a.tmps.size) : (a.put (some d) v).tmps.getD d undef = v := by
  simp [Act.put, h]
theorem stAs_succ {a0 : Act} {c : Nat → Value} {i : Nat} {o : Oper} (ho : ops[i]? = some o) : stAs Kr P ops C phi fx Q a0 c (i + 1) = ((stAs Kr P ops C phi fx Q a0 c i).1.put o.dst (valAs Kr P ops C phi fx Q c i o (stAs Kr P ops C phi fx Q a0 c i)), envAs ops phi c i o (stAs Kr P ops C phi fx Q a0 c i)) := by
  simp only [stAs, ho]
theorem stAs_size (a0 : Act) (c : Nat → Value) : ∀ i, (stAs Kr P ops C phi fx Q a0 c i).1.tmps.size = a0.tmps.size
  | 0 => rfl
  | i + 1 => by
    cases ho : ops[i]? with
    | none => simp only [stAs, ho]; exact stAs_size a0 c i
    | some o => rw [stAs_succ ho]; exact (put_size _ _ _).trans (stAs_size a0 c i)
theorem stAs_defers (a0 : Act) (c : Nat → Value) : ∀ i, (stAs Kr P ops C phi fx Q a0 c i).1.defers = a0.defers
  | 0 => rfl
  | i + 1 => by
    cases ho : ops[i]? with
    | none => simp only [stAs, ho]; exact stAs_defers a0 c i
    | some o => rw [stAs_succ ho]; exact (put_defers' _ _ _).trans (stAs_defers a0 c i)
/-- A slot that no operation ahead of i leaves anything in. -/
theorem stAs_old (a0 : Act) (c : Nat → Value) (t : Tmp) : ∀ i, (∀ j o, j < i → ops[j]? = some o → o.dst ≠ some t) → (stAs Kr P ops C phi fx Q a0 c i).1.tmps.getD t undef = a0.tmps.getD t undef
  | 0, _ => rfl
  | i + 1, h => by
    have ih := stAs_old a0 c t i (fun j o hj ho => h j o (by omega) ho)
    cases ho : ops[i]? with
    | none => simp only [stAs, ho]; exact ih
    | some o => rw [stAs_succ ho]; exact (put_other _ _ _ _ (h i o (by omega) ho)).trans ih
/-- The value of operation i in the walk's frame. -/
noncomputable def vAs (Kr : World → World → Prop) (P : Program) (ops : Array Oper) (C : World → Prop) (phi : Nat → Option (Value → World → Prop)) (fx : Nat → Option Value) (Q : Act → World → Prop) (a0 : Act) (c : Nat → Value) (i : Nat) : Value :=
  match ops[i]? with
  | some o => valAs Kr P ops C phi fx Q c i o (stAs Kr P ops C phi fx Q a0 c i)
  | none => undef
theorem stAs_at {a0 : Act} (hok : Ok ops a0.tmps.size) (c : Nat → Value) {j : Nat} {o : Oper} {d : Tmp} (ho : ops[j]? = some o) (hd : o.dst = some d) : ∀ i, j < i → (stAs Kr P ops C phi fx Q a0 c i).1.tmps.getD d undef = vAs Kr P ops C phi fx Q a0 c j
  | 0, h => absurd h (by omega)
  | i + 1, h => by
    by_cases hji : j = i
    · subst hji
      rw [stAs_succ ho, hd]
      unfold vAs
      simp only [ho]
      exact put_here _ _ _ (by rw [stAs_size]; exact hok.inb j o d ho hd)
    · have ih := stAs_at hok c ho hd i (by omega)
      cases ho' : ops[i]? with
      | none => simp only [stAs, ho']; exact ih
      | some o' =>
        rw [stAs_succ ho']
        exact (put_other _ _ _ _ (fun e => hji (hok.apart j i o o' d ho ho' hd e))).trans ih

/-- Two frames that agree on what an operation looks at: it does the same there. -/
theorem same_looks {o : Oper} (hs : ∀ cs b, o.op ≠ .select cs b) {a b : Act} (hsz : a.tmps.size = b.tmps.size) (h : ∀ t ∈ o.looksAt ops, a.tmps.getD t undef = b.tmps.getD t undef) :
    execOp a.eval o = execOp b.eval o ∧ Region.wanted o (yielded ops a.tmps) = Region.wanted o (yielded ops b.tmps) := by
  constructor
  · refine execOp_congr o hs fun x hx => ?_
    cases x with
    | tmp t => exact h t (List.mem_append_left _ (List.mem_filterMap.2 ⟨.tmp t, by simpa using hx, rfl⟩))
    | _ => rfl
  · unfold Region.wanted
    cases hg : o.guard with
    | none => rfl
    | some gw =>
      obtain ⟨g, want⟩ := gw
      have hy : yielded ops a.tmps g = yielded ops b.tmps g := by
        unfold yielded
        cases ht : (ops[g]?).bind (·.dst) with
        | none => rfl
        | some t =>
          have h1 := h t (List.mem_append_right _ (by simp [hg, ht]))
          have h2 : a.tmps[t]? = b.tmps[t]? := by
            by_cases hlt : t < a.tmps.size
            · have hlt' : t < b.tmps.size := hsz ▸ hlt
              rw [Array.getElem?_eq_getElem hlt, Array.getElem?_eq_getElem hlt']
              simp only [Array.getD, hlt, hlt', dite_true] at h1
              exact congrArg some h1
            · rw [Array.getElem?_eq_none (Nat.le_of_not_lt hlt), Array.getElem?_eq_none (Nat.le_of_not_lt (hsz ▸ hlt))]
          simp only [Option.bind_some, h2]
      simp only [hy]

/-! ### Any order -/
theorem wp_of_does {o : Oper} {a : Act} {w : World} {K : Act → World → Prop} {Q' : Exit → Act → World → Prop} {R : Value → World → Prop} (h : doesUpon P R ((execOp a.eval o).run P w)) (hk : ∀ v w', R v w' → K (a.put o.dst v) w') : o.wp P a w K Q' := by
  unfold Oper.wp
  generalize (execOp a.eval o).run P w = r at *
  cases r with
  | halt x w' => exact h.elim
  | ok n w' =>
    cases n <;> simp only [doesUpon] at h <;> simp only [Oper.upon]
    case value v => exact hk _ _ h
    case skip => exact hk _ _ h
    case enter f args =>
      refine h.mono fun e w'' he => ?_
      obtain ⟨v, rfl, hr⟩ := he
      exact hk _ _ hr

/-- The state when some operations have come up: they left the values u. -/
structure Inv (Kr : World → World → Prop) (P : Program) (ops : Array Oper) (C : World → Prop) (phi : Nat → Option (Value → World → Prop)) (fx : Nat → Option Value) (Q : Act → World → Prop) (a0 : Act) (listed : Array Bool) (u : Nat → Value) (a : Act) (w : World) : Prop where
  lsize : listed.size = ops.size
  size : a.tmps.size = a0.tmps.size
  defers : a.defers = a0.defers
  closed : ∀ i o, ops[i]? = some o → listed.getD i false = true → ∀ e ∈ o.after, Region.binds .any e = true → listed.getD e.on false = true
  new : ∀ i o d, ops[i]? = some o → listed.getD i false = true → o.dst = some d → a.tmps.getD d undef = u i
  old : ∀ t, (∀ i o, ops[i]? = some o → o.dst = some t → listed.getD i false = false) → a.tmps.getD t undef = a0.tmps.getD t undef
  world : C w
  val : ∀ c : Nat → Value, (∀ j, listed.getD j false = true → (phi j).isSome = true → c j = u j) → ∀ i, listed.getD i false = true → vAs Kr P ops C phi fx Q a0 c i = u i
  act : ∀ c : Nat → Value, (∀ j, listed.getD j false = true → (phi j).isSome = true → c j = u j) → ∀ i o φ, ops[i]? = some o → listed.getD i false = true → phi i = some φ →
    Region.wanted o (yielded ops (stAs Kr P ops C phi fx Q a0 c i).1.tmps) = true → φ (u i) w

section
variable {a0 : Act} {listed : Array Bool} {u : Nat → Value} {a : Act} {w : World}

theorem leans_spec {i j : Nat} {o : Oper} (ho : ops[i]? = some o) (h : leans ops i j = true) : ∃ e ∈ o.after, Region.binds .any e = true ∧ e.on = j := by
  simp only [leans, ho, Option.map_some, Option.getD_some] at h
  obtain ⟨e, he, hb⟩ := Array.any_eq_true'.1 h
  simp only [Bool.and_eq_true, beq_iff_eq] at hb
  exact ⟨e, he, hb.1, hb.2⟩

/-- The frame at hand and the walk's frame agree on what an operation that may come up looks at. -/
theorem Inv.looks (hok : Ok ops a0.tmps.size) (I : Inv Kr P ops C phi fx Q a0 listed u a w) {c : Nat → Value} (hc : ∀ j, listed.getD j false = true → (phi j).isSome = true → c j = u j) {i : Nat} {o : Oper} (ho : ops[i]? = some o)
    (hi : listed.getD i false = false) (hr : ∀ e ∈ o.after, Region.binds .any e = true → listed.getD e.on false = true) :
    ∀ t ∈ o.looksAt ops, a.tmps.getD t undef = (stAs Kr P ops C phi fx Q a0 c i).1.tmps.getD t undef := by
  intro t ht
  by_cases hj : ∃ (j : Nat) (o' : Oper), ops[j]? = some o' ∧ o'.dst = some t
  · obtain ⟨j, o', ho', hd⟩ := hj
    rcases hok.edge i j o o' t ho ho' hd ht with h | h | h
    · obtain ⟨e, he, hb, rfl⟩ := leans_spec ho h
      have hl := hr e he hb
      rw [I.new _ o' t ho' hl hd, stAs_at hok c ho' hd i (hok.less i o ho e he hb), I.val c hc _ hl]
    all_goals
      have hun : listed.getD j false = false := by
        first
          | (subst h; exact hi)
          | (obtain ⟨e, he, hb, rfl⟩ := leans_spec ho' h
             cases hl : listed.getD j false with
             | false => rfl
             | true =>
               have := I.closed j o' ho' hl e he hb
               rw [hi] at this
               cases this)
      have hle : i ≤ j := by
        first
          | (subst h; exact Nat.le_refl _)
          | (obtain ⟨e, he, hb, rfl⟩ := leans_spec ho' h
             exact Nat.le_of_lt (hok.less j o' ho' e he hb))
      rw [I.old t (fun k ok hk hdk => by rw [← hok.apart j k o' ok t ho' hk hd hdk]; exact hun),
        stAs_old a0 c t i (fun k ok hk hok' hdk => by have := hok.apart j k o' ok t ho' hok' hd hdk; omega)]
  · rw [I.old t (fun k ok hk hdk => absurd ⟨k, ok, hk, hdk⟩ hj), stAs_old a0 c t i (fun k ok _ hk hdk => hj ⟨k, ok, hk, hdk⟩)]

theorem seen_st {o : Oper} (c : Nat → Value) : ∀ k, (∀ (j : Nat) (oj : Oper) (φ : Value → World → Prop) (d : Tmp), j < k → ops[j]? = some oj → phi j = some φ → Region.wanted oj (yielded ops (stAs Kr P ops C phi fx Q a0 c j).1.tmps) = true → oj.dst = some d → d ∈ o.looksAt ops → φ (c j) w) →
    seen ops o w (stAs Kr P ops C phi fx Q a0 c k).2
  | 0, _ => trivial
  | k + 1, h => by
    have ih := seen_st (o := o) c k (fun j oj φ d hj => h j oj φ d (by omega))
    cases ho : ops[k]? with
    | none => simp only [stAs, ho]; exact ih
    | some ok =>
      rw [stAs_succ ho]
      unfold envAs
      by_cases hw : Region.wanted ok (yielded ops (stAs Kr P ops C phi fx Q a0 c k).1.tmps) = true
      · simp only [if_pos hw]
        cases hp : phi k with
        | none => exact ih
        | some φ =>
          simp only
          unfold envAdd
          exact ⟨fun d hd hc => h k ok φ d (by omega) ho hp hw hd (List.contains_iff_mem.1 hc), ih⟩
      · simp only [if_neg hw]
        exact ih
theorem holds_st (c : Nat → Value) : ∀ k, (∀ (j : Nat) (oj : Oper) (φ : Value → World → Prop), j < k → ops[j]? = some oj → phi j = some φ → Region.wanted oj (yielded ops (stAs Kr P ops C phi fx Q a0 c j).1.tmps) = true → φ (c j) w) →
    holds w (stAs Kr P ops C phi fx Q a0 c k).2
  | 0, _ => trivial
  | k + 1, h => by
    have ih := holds_st c k (fun j oj φ hj => h j oj φ (by omega))
    cases ho : ops[k]? with
    | none => simp only [stAs, ho]; exact ih
    | some ok =>
      rw [stAs_succ ho]
      unfold envAs
      by_cases hw : Region.wanted ok (yielded ops (stAs Kr P ops C phi fx Q a0 c k).1.tmps) = true
      · simp only [if_pos hw]
        cases hp : phi k with
        | none => exact ih
        | some φ =>
          simp only
          unfold envAdd
          exact ⟨h k ok φ (by omega) ho hp hw, ih⟩
      · simp only [if_neg hw]
        exact ih

/-- One operation more has come up and left v. -/
theorem Inv.next (hok : Ok ops a0.tmps.size) (I : Inv Kr P ops C phi fx Q a0 listed u a w) {i : Nat} {o : Oper} {v : Value} {w' : World} (ho : ops[i]? = some o) (hi : listed.getD i false = false)
    (hr : ∀ e ∈ o.after, Region.binds .any e = true → listed.getD e.on false = true) (hC : C w') (hst : ∀ (j : Nat) (φ : Value → World → Prop) (x : Value), phi j = some φ → φ x w → φ x w')
    (hv : ∀ c : Nat → Value, (∀ j, listed.getD j false = true → (phi j).isSome = true → c j = u j) → ((phi i).isSome = true → c i = v) → vAs Kr P ops C phi fx Q a0 c i = v)
    (ha : ∀ c : Nat → Value, (∀ j, listed.getD j false = true → (phi j).isSome = true → c j = u j) → ∀ φ, phi i = some φ → Region.wanted o (yielded ops (stAs Kr P ops C phi fx Q a0 c i).1.tmps) = true → φ v w') :
    Inv Kr P ops C phi fx Q a0 (listed.setIfInBounds i true) (fun j => if j = i then v else u j) (a.put o.dst v) w' := by
  have hlt : i < ops.size := (Array.getElem?_eq_some_iff.1 ho).1
  have hL : ∀ j, (listed.setIfInBounds i true).getD j false = true ↔ j = i ∨ listed.getD j false = true := by
    intro j
    by_cases hji : i = j
    · subst hji
      have : i < listed.size := by rw [I.lsize]; exact hlt
      simp [this]
    · rw [getD_set_ne false hji]
      constructor
      · exact .inr
      · rintro (h | h)
        · exact absurd h.symm hji
        · exact h
  have hne : ∀ j, listed.getD j false = true → j ≠ i := fun j hj e => by rw [e, hi] at hj; cases hj
  have hag : ∀ c : Nat → Value, (∀ j, (listed.setIfInBounds i true).getD j false = true → (phi j).isSome = true → c j = if j = i then v else u j) →
      (∀ j, listed.getD j false = true → (phi j).isSome = true → c j = u j) ∧ ((phi i).isSome = true → c i = v) := fun c hc =>
    ⟨fun j hj hp => by have := hc j ((hL j).2 (.inr hj)) hp; rwa [if_neg (hne j hj)] at this, fun hp => by have := hc i ((hL i).2 (.inl rfl)) hp; rwa [if_pos rfl] at this⟩
  refine ⟨by simpa using I.lsize, (put_size _ _ _).trans I.size, (put_defers' _ _ _).trans I.defers, ?_, ?_, ?_, hC, ?_, ?_⟩
  · intro j oj hoj hj e he hb
    rcases (hL j).1 hj with rfl | h
    · rw [ho] at hoj
      cases hoj
      exact (hL _).2 (.inr (hr e he hb))
    · exact (hL _).2 (.inr (I.closed j oj hoj h e he hb))
  · intro j oj d hoj hj hd
    rcases (hL j).1 hj with rfl | h
    · rw [ho] at hoj
      cases hoj
      rw [hd, if_pos rfl]
      exact put_here _ _ _ (by rw [I.size]; exact hok.inb j o d ho hd)
    · rw [if_neg (hne j h)]
      exact (put_other _ _ _ _ (fun e => hne j h (hok.apart j i oj o d hoj ho hd e))).trans (I.new j oj d hoj h hd)
  · intro t ht
    have hn : o.dst ≠ some t := fun e => by have := ht i o ho e; rw [(hL i).2 (.inl rfl)] at this; cases this
    refine (put_other _ _ _ _ hn).trans (I.old t fun j oj hoj hd => ?_)
    have := ht j oj hoj hd
    cases hl : listed.getD j false with
    | false => rfl
    | true => rw [(hL j).2 (.inr hl)] at this; cases this
  · intro c hc j hj
    obtain ⟨h1, h2⟩ := hag c hc
    rcases (hL j).1 hj with rfl | h
    · rw [if_pos rfl]; exact hv c h1 h2
    · rw [if_neg (hne j h)]; exact I.val c h1 j h
  · intro c hc j oj φ hoj hj hp hw
    obtain ⟨h1, h2⟩ := hag c hc
    rcases (hL j).1 hj with rfl | h
    · rw [ho] at hoj
      cases hoj
      rw [if_pos rfl]
      exact ha c h1 φ hp hw
    · rw [if_neg (hne j h)]
      exact hst j φ _ hp (I.act c h1 j oj φ hoj h hp hw)

theorem Inv.step (hok : Ok ops a0.tmps.size) (h0 : wpAs Kr P ops C phi fx Q 0 ops.toList a0 []) (hCb : ∀ w w', C w → Kr w w' → C w') (hst : ∀ (j : Nat) (φ : Value → World → Prop) (x : Value) (w w' : World), phi j = some φ → φ x w → Kr w w' → φ x w')
    (I : Inv Kr P ops C phi fx Q a0 listed u a w) {i : Nat} (hi : i ∈ Region.ready .any ops listed) {Q' : Exit → Act → World → Prop} :
    wpOp P ops Q' i (fun a' w' => ∃ u', Inv Kr P ops C phi fx Q a0 (listed.setIfInBounds i true) u' a' w') a w := by
  obtain ⟨hun, o, ho, hr⟩ := mem_ready.1 hi
  have hlt : i < ops.size := (Array.getElem?_eq_some_iff.1 ho).1
  have hil : listed.getD i false = false := by
    have : i < listed.size := by rw [I.lsize]; exact hlt
    simpa [this] using hun
  have hsel := Region.noSelect_spec hok.sel
  have look : ∀ c : Nat → Value, (∀ j, listed.getD j false = true → (phi j).isSome = true → c j = u j) →
      execOp a.eval o = execOp (stAs Kr P ops C phi fx Q a0 c i).1.eval o ∧ Region.wanted o (yielded ops a.tmps) = Region.wanted o (yielded ops (stAs Kr P ops C phi fx Q a0 c i).1.tmps) := fun c hc =>
    same_looks (fun cs b => hsel i o cs b ho) (I.size.trans (stAs_size a0 c i).symm) (I.looks hok hc ho hil hr)
  have see : ∀ c : Nat → Value, (∀ j, listed.getD j false = true → (phi j).isSome = true → c j = u j) → seen ops o w (stAs Kr P ops C phi fx Q a0 c i).2 := fun c hc =>
    seen_st c i fun j oj φ d hj hoj hp hw hd hm => by
      rcases hok.edge i j o oj d ho hoj hd hm with h | h | h
      · obtain ⟨e, he, hb, rfl⟩ := leans_spec ho h
        have hl := hr e he hb
        rw [hc _ hl (by rw [hp]; rfl)]
        exact I.act c hc _ oj φ hoj hl hp hw
      · obtain ⟨e, he, hb, h'⟩ := leans_spec hoj h
        have := hok.less j oj hoj e he hb
        omega
      · omega
  have vas : ∀ c : Nat → Value, vAs Kr P ops C phi fx Q a0 c i = valAs Kr P ops C phi fx Q c i o (stAs Kr P ops C phi fx Q a0 c i) := fun c => by
    unfold vAs
    simp only [ho]
  have hu : ∀ j, listed.getD j false = true → (phi j).isSome = true → u j = u j := fun _ _ _ => rfl
  unfold wpOp
  simp only [ho]
  by_cases hw : Region.wanted o (yielded ops a.tmps) = true
  · rw [if_pos hw]
    refine .inl ?_
    cases hp : phi i with
    | none =>
      cases hf : fx i with
      | none =>
        have hrun := valAs_pure h0 u ho (by rw [← (look u hu).2]; exact hw) hp hf w I.world (see u hu)
        rw [← (look u hu).1] at hrun
        unfold Oper.wp
        rw [hrun]
        refine ⟨_, I.next hok ho hil hr I.world (fun _ _ _ _ h => h) (fun c hc _ => ?_) (fun c hc φ hp' => by rw [hp] at hp'; cases hp')⟩
        have hrun' := valAs_pure h0 c ho (by rw [← (look c hc).2]; exact hw) hp hf w I.world (see c hc)
        rw [← (look c hc).1, hrun] at hrun'
        rw [vas c]
        injection hrun' with h1 _
        injection h1 with h1
        exact h1.symm
      | some x =>
        have hrun := valAs_fixed h0 u ho (by rw [← (look u hu).2]; exact hw) hp hf w I.world (see u hu)
        rw [← (look u hu).1] at hrun
        refine wp_of_does hrun fun v w' ⟨hφ, hb⟩ => ⟨_, I.next hok ho hil hr (hCb w w' I.world hb) (fun j φ' x hp' h => hst j φ' x w w' hp' h hb) (fun c hc _ => ?_) (fun c hc φ' hp' _ => ?_)⟩
        · rw [vas c]
          unfold valAs
          rw [if_pos (by rw [← (look c hc).2]; exact hw)]
          simp only [hp, hf]
          exact hφ.symm
        · rw [hp] at hp'
          cases hp'
    | some φ =>
      have hrun := valAs_act h0 u ho (by rw [← (look u hu).2]; exact hw) hp w I.world (see u hu)
      rw [← (look u hu).1] at hrun
      refine wp_of_does hrun fun v w' ⟨hφ, hb⟩ => ⟨_, I.next hok ho hil hr (hCb w w' I.world hb) (fun j φ' x hp' h => hst j φ' x w w' hp' h hb) (fun c hc hci => ?_) (fun c hc φ' hp' _ => ?_)⟩
      · rw [vas c]
        unfold valAs
        rw [if_pos (by rw [← (look c hc).2]; exact hw)]
        simp only [hp]
        exact hci (by rw [hp]; rfl)
      · rw [hp] at hp'
        cases hp'
        exact hφ
  · rw [if_neg hw]
    refine ⟨_, I.next hok ho hil hr I.world (fun _ _ _ _ h => h) (fun c hc _ => ?_) (fun c hc φ hp' hw' => ?_)⟩
    · rw [vas c]
      unfold valAs
      rw [if_neg (by rw [← (look c hc).2]; exact hw)]
    · rw [← (look c hc).2] at hw'
      exact absurd hw' hw

/-- How many have not come up. -/
def left (n : Nat) (listed : Array Bool) : Nat := ((List.range n).filter fun i => !listed.getD i false).length
theorem left_set {n : Nat} {listed : Array Bool} {i : Nat} (hi : i < n) (hs : listed.size = n) (hl : listed.getD i false = false) : left n (listed.setIfInBounds i true) < left n listed := by
  unfold left
  have hsub : ((List.range n).filter fun j => !(listed.setIfInBounds i true).getD j false) = ((List.range n).filter fun j => !listed.getD j false).filter (fun j => j != i) := by
    rw [List.filter_filter]
    refine List.filter_congr fun j _ => ?_
    by_cases hji : i = j
    · subst hji
      have : i < listed.size := by omega
      simp [this]
    · rw [getD_set_ne false hji]
      have : (j != i) = true := by simpa using fun e : j = i => hji e.symm
      simp [this]
  rw [hsub]
  refine List.length_filter_lt_length_iff_exists.2 ⟨i, ?_, by simp⟩
  rw [List.mem_filter, List.mem_range]
  exact ⟨hi, by rw [hl]; rfl⟩

theorem wpAny_of_as (hok : Ok ops a0.tmps.size) (h0 : wpAs Kr P ops C phi fx Q 0 ops.toList a0 []) (hCb : ∀ w w', C w → Kr w w' → C w') (hst : ∀ (j : Nat) (φ : Value → World → Prop) (x : Value) (w w' : World), phi j = some φ → φ x w → Kr w w' → φ x w')
    {Q' : Exit → Act → World → Prop} (hQ : ∀ a w, Q a w → Q' .normal a w) : ∀ (fuel : Nat) (listed : Array Bool) (u : Nat → Value) (a : Act) (w : World), left ops.size listed ≤ fuel → Inv Kr P ops C phi fx Q a0 listed u a w → wpAny P .any ops Q' fuel listed a w := by
  have fin : ∀ (listed : Array Bool) (u : Nat → Value) (a : Act) (w : World), Inv Kr P ops C phi fx Q a0 listed u a w → Region.ready .any ops listed = [] → Q' .normal a w := by
    intro listed u a w I hr
    have all : ∀ n i, i < n → i < ops.size → listed.getD i false = true := by
      intro n
      induction n with
      | zero => intro i h; omega
      | succ n ih =>
        intro i hin hi
        cases hl : listed.getD i false with
        | true => rfl
        | false =>
          have ho : ops[i]? = some (ops[i]'hi) := Array.getElem?_eq_getElem hi
          have hmem : i ∈ Region.ready .any ops listed := by
            refine mem_ready.2 ⟨?_, _, ho, fun e he hb => ?_⟩
            · have : i < listed.size := by rw [I.lsize]; exact hi
              simpa [this] using hl
            · have := hok.less i _ ho e he hb
              exact ih e.on (by omega) (by omega)
          rw [hr] at hmem
          cases hmem
    have all' : ∀ i, i < ops.size → listed.getD i false = true := fun i hi => all (i + 1) i (by omega) hi
    have hu : ∀ j, listed.getD j false = true → (phi j).isSome = true → u j = u j := fun _ _ _ => rfl
    have hend := stAs_walk h0 u ops.size (Nat.le_refl _)
    have hn : ops.toList.drop ops.size = [] := List.drop_eq_nil_of_le (by simp)
    rw [hn] at hend
    unfold wpAs at hend
    have he := hend w I.world (holds_st u ops.size fun j oj φ hj hoj hp hw => I.act u hu j oj φ hoj (all' j hj) hp hw)
    have hfr : a = (stAs Kr P ops C phi fx Q a0 u ops.size).1 := by
      have hs := I.size.trans (stAs_size (Kr := Kr) (P := P) (ops := ops) (C := C) (phi := phi) (fx := fx) (Q := Q) a0 u ops.size).symm
      have hd := I.defers.trans (stAs_defers (Kr := Kr) (P := P) (ops := ops) (C := C) (phi := phi) (fx := fx) (Q := Q) a0 u ops.size).symm
      have ht : ∀ t, a.tmps.getD t undef = (stAs Kr P ops C phi fx Q a0 u ops.size).1.tmps.getD t undef := by
        intro t
        by_cases hj : ∃ (j : Nat) (o' : Oper), ops[j]? = some o' ∧ o'.dst = some t
        · obtain ⟨j, o', ho', hd'⟩ := hj
          have hjl := (Array.getElem?_eq_some_iff.1 ho').1
          rw [I.new j o' t ho' (all' j hjl) hd', stAs_at hok u ho' hd' ops.size hjl, I.val u hu j (all' j hjl)]
        · rw [I.old t (fun k ok hk hdk => absurd ⟨k, ok, hk, hdk⟩ hj), stAs_old a0 u t ops.size (fun k ok _ hk hdk => hj ⟨k, ok, hk, hdk⟩)]
      generalize (stAs Kr P ops C phi fx Q a0 u ops.size).1 = b at *
      obtain ⟨at_, ad⟩ := a
      obtain ⟨bt, bd⟩ := b
      simp only at hs hd ht
      subst hd
      have : at_ = bt := by
        apply Array.ext hs
        intro k h1 h2
        have := ht k
        simpa [Array.getD, h1, h2] using this
      rw [this]
    rw [hfr]
    exact hQ _ _ he
  intro fuel
  induction fuel with
  | zero =>
    intro listed u a w hl I
    have hr : Region.ready .any ops listed = [] := by
      rw [List.eq_nil_iff_forall_not_mem]
      intro i hi
      obtain ⟨hun, o, ho, _⟩ := mem_ready.1 hi
      have hlt := (Array.getElem?_eq_some_iff.1 ho).1
      have hil : listed.getD i false = false := by
        have : i < listed.size := by rw [I.lsize]; exact hlt
        simpa [this] using hun
      have := left_set hlt I.lsize hil
      omega
    exact ⟨hr, fin listed u a w I hr⟩
  | succ fuel ih =>
    intro listed u a w hl I
    refine ⟨fun hr => fin listed u a w I hr, fun i hi => ?_⟩
    have hlt : i < ops.size := by
      obtain ⟨_, o, ho, _⟩ := mem_ready.1 hi
      exact (Array.getElem?_eq_some_iff.1 ho).1
    have hil : listed.getD i false = false := by
      have h1 := (mem_ready.1 hi).1
      have : i < listed.size := by rw [I.lsize]; exact hlt
      simpa [this] using h1
    refine wpOp_mono (fun a' w' ⟨u', I'⟩ => ih _ u' a' w' ?_ I') (I.step hok h0 hCb hst hi)
    have := left_set hlt I.lsize hil
    omega
end

/-- THE LAW: a region that draws its order, walked once. -/
theorem wp_region_fx (Kr : World → World → Prop) {id : Nat} {l : List Oper} {a : Act} {w : World} {Q' : Exit → Act → World → Prop} (hm : P.follows .mixedOrders = true) (C : World → Prop) (phi : Nat → Option (Value → World → Prop)) (fx : Nat → Option Value) (hok : okAs l.toArray a.tmps.size = true)
    (hC : C w.drew) (hCb : ∀ w w', C w → Kr w w' → C w') (hst : ∀ (j : Nat) (φ : Value → World → Prop) (x : Value) (w w' : World), phi j = some φ → φ x w → Kr w w' → φ x w')
    (h : wpAs Kr P l.toArray C phi fx (fun a w => Q' .normal a w) 0 l a []) : (Code.region id l.toArray true).wp P Q' a w := by
  refine wp_region_any hm ?_
  have hsz : (Array.replicate l.toArray.size false).size = l.toArray.size := by simp
  have hg : ∀ i, (Array.replicate l.toArray.size false).getD i false = false := fun i => by
    by_cases hi : i < l.toArray.size
    · simp [Array.getD]
    · simp [Array.getD]
  refine wpAny_of_as (a0 := a) (ok_of hok) (by simpa using h) hCb hst (fun _ _ h => h) _ _ (fun _ => undef) a w.drew ?_ ⟨hsz, rfl, rfl, ?_, ?_, fun _ _ => rfl, hC, ?_, ?_⟩
  · unfold left
    exact Nat.le_trans (List.length_filter_le _ _) (by simp)
  · intro i o _ hl
    rw [hg i] at hl
    cases hl
  · intro i o d _ hl
    rw [hg i] at hl
    cases hl
  · intro c _ i hl
    rw [hg i] at hl
    cases hl
  · intro c _ i o φ _ hl
    rw [hg i] at hl
    cases hl
end

/-! ### Steps -/
theorem does_enter {P : Program} {ρ : Operand → Value} {o : Oper} {w : World} {R : Value → World → Prop} {f : FuncId} {args : Array Value} (h : (execOp ρ o).run P w = .ok (.enter f args) w) (hc : Calls P f args w (fun e w' => ∃ v, e = .returned v ∧ R v w')) : doesUpon P R ((execOp ρ o).run P w) := by
  rw [h]
  exact hc
end Go.Proofs.YtdaidhbmfocodaaGreat.Rb

/-
  Worlds in which a few boxes may turn to what they end as, all others stay. No program, no condition of its own.
-/
namespace Go.Proofs.YtdaidhbmfocodaaGreat
open Go.RowKit

/-- Of what lay there, each block is as it was, or is one of the boxes and as it ends. -/
structure KeepT (fin : Nat → Option Obj) (w w' : World) : Prop where
  os : w'.os = w.os
  tape : w'.tape = w.tape
  output : w'.output = w.output
  size : w.heap.size ≤ w'.heap.size
  block : ∀ k, k < w.heap.size → w'.heap[k]? = w.heap[k]? ∨ ∃ o, fin k = some o ∧ w'.heap[k]? = some o
theorem KeepT.refl (fin : Nat → Option Obj) (w : World) : KeepT fin w w := ⟨rfl, rfl, rfl, Nat.le_refl _, fun _ _ => .inl rfl⟩
theorem KeepT.trans {fin : Nat → Option Obj} {a b c : World} (h : KeepT fin a b) (k : KeepT fin b c) : KeepT fin a c :=
  ⟨k.os.trans h.os, k.tape.trans h.tape, k.output.trans h.output, Nat.le_trans h.size k.size, fun i hi => by
    rcases k.block i (Nat.lt_of_lt_of_le hi h.size) with e | ⟨o, e1, e2⟩
    · rcases h.block i hi with e' | ⟨o, e1, e2⟩
      · exact .inl (e.trans e')
      · exact .inr ⟨o, e1, e.trans e2⟩
    · exact .inr ⟨o, e1, e2⟩⟩
theorem KeepT.drew {fin : Nat → Option Obj} {a w : World} (h : KeepT fin a w) : KeepT fin a w.drew := ⟨h.os, h.tape, h.output, h.size, h.block⟩
theorem KeepT.of_below {fin : Nat → Option Obj} {a b : World} (h : Below a.heap.size a b) : KeepT fin a b := ⟨h.os, h.tape, h.output, h.size, fun k hk => .inl (h.block k hk)⟩
theorem KeepT.of_grown {fin : Nat → Option Obj} {a b : World} {g : Nat} {o : Obj} (h : a.grownBy b (some g)) (hf : fin g = some o) (hg : b.heap[g]? = some o) : KeepT fin a b :=
  ⟨h.os, h.tape, h.output, h.size, fun k hk => by
    by_cases e : k = g
    · subst e
      exact .inr ⟨o, hf, hg⟩
    · exact .inl (h.block k hk (fun e' => e (Option.some.inj e')))⟩
/-- Below the boxes all stays. -/
theorem KeepT.below {fin : Nat → Option Obj} {a b : World} {lo : Nat} (h : KeepT fin a b) (hl : lo ≤ a.heap.size) (hf : ∀ k, k < lo → fin k = none) : Below lo a b :=
  ⟨h.os, h.tape, h.output, h.size, fun k hk => by
    rcases h.block k (Nat.lt_of_lt_of_le hk hl) with e | ⟨o, e1, _⟩
    · exact e
    · rw [hf k hk] at e1
      cases e1⟩
/-- A block that is none of the boxes. -/
theorem KeepT.other {fin : Nat → Option Obj} {a b : World} {k : Nat} {o : Obj} (h : KeepT fin a b) (hf : fin k = none) (ha : a.heap[k]? = some o) : b.heap[k]? = some o := by
  rcases h.block k (Array.getElem?_eq_some_iff.1 ha).1 with e | ⟨o', e1, _⟩
  · exact e.trans ha
  · rw [hf] at e1
    cases e1
/-- A box, once it is as it ends, stays so. -/
theorem KeepT.done {fin : Nat → Option Obj} {a b : World} {k : Nat} {o : Obj} (h : KeepT fin a b) (hf : fin k = some o) (ha : a.heap[k]? = some o) : b.heap[k]? = some o := by
  rcases h.block k (Array.getElem?_eq_some_iff.1 ha).1 with e | ⟨o', e1, e2⟩
  · exact e.trans ha
  · rw [hf] at e1
    cases e1
    exact e2
/-- A box is as it began, or as it ends. -/
theorem KeepT.box {fin : Nat → Option Obj} {a b : World} {k : Nat} {o o' : Obj} (h : KeepT fin a b) (hf : fin k = some o') (ha : a.heap[k]? = some o) : b.heap[k]? = some o ∨ b.heap[k]? = some o' := by
  rcases h.block k (Array.getElem?_eq_some_iff.1 ha).1 with e | ⟨o2, e1, e2⟩
  · exact .inl (e.trans ha)
  · rw [hf] at e1
    cases e1
    exact .inr e2
/-- Two boxes, and what they end as. -/
def finTwo (g1 : Nat) (o1 : Obj) (g2 : Nat) (o2 : Obj) : Nat → Option Obj := fun k => if k = g1 then some o1 else if k = g2 then some o2 else none
theorem finTwo_one (g1 : Nat) (o1 : Obj) (g2 : Nat) (o2 : Obj) : finTwo g1 o1 g2 o2 g1 = some o1 := if_pos rfl
theorem finTwo_two {g1 g2 : Nat} (h : g2 ≠ g1) (o1 o2 : Obj) : finTwo g1 o1 g2 o2 g2 = some o2 := by rw [finTwo, if_neg h, if_pos rfl]
theorem finTwo_none {g1 g2 k : Nat} (h1 : k ≠ g1) (h2 : k ≠ g2) (o1 o2 : Obj) : finTwo g1 o1 g2 o2 k = none := by rw [finTwo, if_neg h1, if_neg h2]
end Go.Proofs.YtdaidhbmfocodaaGreat

/-
  Package code: slices.Backward over bytes, and gather, which ranges over it. Conditions: those that each lemma states.
-/
namespace Go.Proofs.YtdaidhbmfocodaaGreat
open Go.RowKit Go.Shelf
attribute [local go_sem] Oper.semAt_some

/-- What a round keeps: all that lay below block n₀, and the box Bs. -/
def Keeps (n₀ Bs : Nat) (A B : World) : Prop := Below n₀ A B ∧ B.cell? ⟨Bs, 0, none⟩ = A.cell? ⟨Bs, 0, none⟩
theorem Keeps.trans {n₀ Bs : Nat} {A B C : World} (h : Keeps n₀ Bs A B) (h' : Keeps n₀ Bs B C) : Keeps n₀ Bs A C := ⟨h.1.trans h'.1, h'.2.trans h.2⟩

set_option maxRecDepth 100000 in
set_option maxHeartbeats 2000000 in
/-- The closure of slices.Backward, for every loop body that keeps what lay below n₀. -/
theorem back_in (F : Fence) (n : Nat) (hf : F.fn 151) (hro : F.round = none) (hn : 1 ≤ n) (l Bs n₀ cap : Nat) (ad : Addr) (xs : List UInt8) (hm : xs.length ≤ 9223372036854775807) (hb : ad.block < n₀) (J Jx : List (Nat × UInt8) → World → Prop)
    (hY : ∀ pre x W, J pre W → pre.length < xs.length → YieldAt F (n - 1) Tryz.prog l #[.int .i64 (x.1 : Int), .int .u8 (x.2.toNat : Int)] W fun e W' =>
      (e = .returned (.bool true) ∧ J (pre ++ [x]) W' ∧ Keeps n₀ Bs W W') ∨ (e = .returned (.bool false) ∧ Jx (pre ++ [x]) W'))
    (W : World) (hBs : W.cell? ⟨Bs, 0, none⟩ = some (.slice (some ad) xs.length cap)) (hc : ∀ j, j < xs.length → W.cell? (ad.add j) = some (.int .u8 ((xs[j]?.getD 0).toNat : Int))) (h0 : J [] W) :
    CallsIn F n Tryz.prog 151 #[.func (.yield l) #[] #[], .pointer (some ⟨Bs, 0, none⟩)] W fun e W' => (∃ v, e = .returned v) ∧
      ((∃ ys, ys = back xs xs.length ∧ J ys W') ∨ (∃ pre, (∃ k, k ≤ xs.length ∧ pre = back xs k) ∧ Jx pre W')) := by
  refine callsIn_of_wp Tryz.func151 rfl hf ?_ hro
  simp only [Tryz.ntmps151, List.size_toArray, List.length_cons, List.length_nil, Nat.reduceAdd, Nat.reduceSub, Array.replicate_succ, Array.replicate_zero, List.push_toArray, List.append_toArray, List.nil_append, List.cons_append]
  gi_wp2
  gi_loopw [3] (fun i wr => ∃ k : Nat, k ≤ xs.length ∧ i = .int .i64 ((xs.length : Int) - 1 - k) ∧ J (back xs k) wr ∧ Below n₀ W wr ∧ wr.cell? ⟨Bs, 0, none⟩ = some (.slice (some ad) xs.length cap))
    (fun i _ => (intOf i + 1).toNat)
  case atStart => exact ⟨0, Nat.zero_le _, by simp, h0, Below.refl _ _, hBs⟩
  case round =>
    obtain ⟨k, hk, rfl, hJs, hnx, hbs⟩ := hrel
    by_cases hlt : k < xs.length
    · have hcx : wr.cell? (ad.add (xs.length - 1 - k)) = some (.int .u8 ((xs[xs.length - 1 - k]?.getD 0).toNat : Int)) := (hnx.cell (p := ad.add (xs.length - 1 - k)) (by rw [add_block]; exact hb)).trans (hc _ (by omega))
      obtain ⟨fn, tmps, assign, body, hy, hR⟩ := hY _ (xs.length - 1 - k, xs[xs.length - 1 - k]?.getD 0) wr hJs (by rw [back_length]; exact hlt)
      dsimp only at hy
      have e1 : ((xs.length : Int) - 1 - k).toNat = xs.length - 1 - k := by omega
      have e2 : ((xs.length - 1 - k : Nat) : Int) = (xs.length : Int) - 1 - k := by omega
      rw [e2] at hy
      gi_wp2
      refine hR.mono ?_
      rintro e W3 (⟨rfl, hJ3, hk3⟩ | ⟨rfl, hJx3⟩)
      · gi_wp2
        go_roundw
        case rel => exact ⟨k + 1, by omega, by go_num, by rw [back_succ]; exact hJ3, hnx.trans hk3.1, hk3.2.trans hbs⟩
        case measure => simp [intOf]; omega
      · gi_wp2
        refine bodyPost_ret (results_none rfl _ _ _) rfl ?_
        exact ⟨⟨_, rfl⟩, .inr ⟨_, ⟨k + 1, by omega, (back_succ _ _).symm⟩, hJx3⟩⟩
    · obtain rfl : k = xs.length := by omega
      gi_wp2
      go_end0
      exact ⟨⟨_, rfl⟩, .inl ⟨_, rfl, hJs⟩⟩

set_option maxHeartbeats 1000000 in
/-- slices.Backward(s): the slice value is boxed; the function value captures the box. -/
theorem backward_in (F : Fence) (n : Nat) (hf : F.fn 135) (hro : F.round = none) (a : Option Addr) (len cap : Nat) (w : World) :
    CallsIn F n Tryz.prog 135 #[.slice a len cap] w fun e w' => e = .returned (.func (.func 151) #[] #[.pointer (some ⟨w.heap.size, 0, none⟩)]) ∧ w' = w.alloc (.cells #[.slice a len cap] 27) := by
  refine callsIn_of_wp Tryz.func135 rfl hf ?_ hro
  simp only [Tryz.ntmps135, List.size_toArray, List.length_cons, List.length_nil, Nat.reduceAdd, Nat.reduceSub, Array.replicate_succ, Array.replicate_zero, List.push_toArray, List.append_toArray, List.nil_append, List.cons_append]
  gi_wp2
  go_ret
  exact ⟨rfl, rfl⟩

/-- slices.Backward(s) hands back a value that gives the pairs from behind: all, or the first k of them. -/
theorem backward_stops (F : Fence) (n : Nat) (hf : F.fn 151) (hro : F.round = none) (hn : 1 ≤ n) (Bs n₀ cap : Nat) (ad : Addr) (xs : List UInt8) (hm : xs.length ≤ 9223372036854775807) (w : World) (hBs : Bs < w.heap.size) (hn₀ : n₀ ≤ w.heap.size)
    (hc : w.cell? ⟨Bs, 0, none⟩ = some (.slice (some ad) xs.length cap)) (hb : ad.block < n₀) (hx : ∀ j, j < xs.length → w.cell? (ad.add j) = some (.int .u8 ((xs[j]?.getD 0).toNat : Int))) :
    SeqStopsK F n Tryz.prog 151 #[.pointer (some ⟨Bs, 0, none⟩)] (fun x : Nat × UInt8 => #[Value.int .i64 (x.1 : Int), Value.int .u8 (x.2.toNat : Int)]) (Keeps n₀ Bs) (fun ys => ys = back xs xs.length)
      (fun pre => ∃ k, k ≤ xs.length ∧ pre = back xs k) xs.length w := fun l J Jx W hW _ _ hY h0 => by
  have hc' := (hW.cell (p := ⟨Bs, 0, none⟩) hBs).trans hc
  exact back_in F n hf hro hn l Bs n₀ cap ad xs hm hb J Jx hY W hc' (fun j hj => (hW.cell (p := ad.add j) (by rw [add_block]; omega)).trans (hx j hj)) h0

/-- What the loop itself turns keeps it. -/
theorem keeps_b {W w : World} {Bs n₀ : Nat} (hBs : Bs < w.heap.size) (hn₀ : n₀ ≤ w.heap.size) (l : Nat) (o o' : Obj) (hl : w.heap.size ≤ l) (h1 : W.heap[l]? = some o) (h2 : o.isCells = false) (h3 : o.isWalk = false) : Keeps n₀ Bs W (W.putObj l o') :=
  ⟨belowK_b hn₀ W l o o' hl h1 h2 h3, World.cell?_of_block (World.putObj_heap_other (k := Bs) (by omega))⟩

set_option maxRecDepth 100000 in
set_option maxHeartbeats 2000000 in
theorem gather_in (F : Fence) (n : Nat) (h3 : F.fn 110) (h5 : F.fn 135) (h7 : F.fn 151) (hro : F.round = none) (hn : 3 ≤ n)
    (ad : Addr) (len cap m k : Nat) (ys : List UInt8) (hk : ys.length = m) (hm0 : 0 < m) (hm : m ≤ 4) (hle : k + m ≤ len) (hlc : len ≤ cap) (hcap : cap ≤ 9223372036854775807) (w : World)
    (hb : ad.block < w.heap.size) (hx : ∀ j, j < ys.length → w.cell? ((ad.add k).add j) = some (.int .u8 ((ys[j]?.getD 0).toNat : Int))) :
    CallsIn F n Tryz.prog 110 #[.slice (some ad) len cap, .int .i64 k, .int .i64 m] w fun e W' => e = .returned (.tuple #[.int .u32 (num ys), .int .i64 0]) ∧ Below w.heap.size w W' := by
  have h1 : 1 ≤ n := by omega
  refine callsIn_of_wp_marks Tryz.func110 rfl h3 ?_ hro
  simp only [Tryz.ntmps110, List.size_toArray, List.length_cons, List.length_nil, Nat.reduceAdd, Nat.reduceSub, Array.replicate_succ, Array.replicate_zero, List.push_toArray, List.append_toArray, List.nil_append, List.cons_append]
  gi_wp2_with (gi_at_call 135; refine (backward_in F (n - 1) h5 hro _ _ _ _).mono ?_; rintro e w' ⟨rfl, rfl⟩)
  obtain rfl := hk
  have bN := Boxed.new w 36 (.int .u32 0)
  have bS := Boxed.new (w.alloc (.cells #[.int .u32 0] 36)) 27 (.slice (some (ad.add k)) ys.length (cap - k))
  rw [World.size_alloc] at bS
  have hB0 : Below w.heap.size w ((w.alloc (.cells #[.int .u32 0] 36)).alloc (.cells #[.slice (some (ad.add k)) ys.length (cap - k)] 27)) := ((Below.refl _ w).alloc (Nat.le_refl _) _).alloc (by simp) _
  refine wpIn_rangeFunc_ownG hro h1 (gf := 151) (lb := #[.pointer (some ⟨w.heap.size + 1, 0, none⟩)]) rfl h7 (enters_of Tryz.func151 (by kernel_rfl) rfl)
    (backward_stops F (n - 1) h7 hro (by omega) (w.heap.size + 1) w.heap.size (cap - k) (ad.add k) ys (by omega) _ (by simp) (by simp; omega) bS.cell (by rw [add_block]; exact hb) (fun j hj => (hB0.cell (p := (ad.add k).add j) (by rw [add_block, add_block]; exact hb)).trans (hx j hj)))
    (fun h h' => Keeps.trans h h') (fun W l o o' hl h1 h2 h3 => keeps_b (by simp) (by simp; omega) l o o' hl h1 h2 h3) (Below.refl _ _) (fun _ => rfl)
    (fun pre W => (W.cell? ⟨w.heap.size, 0, none⟩ = some (.int .u32 (val pre)) ∧ W.frozen? ⟨w.heap.size, 0, none⟩ = false) ∧ Below w.heap.size w W)
    (fun _ _ _ => False)
    (OwnFrom.and (Own.from (fun s A B row hs hg hr => ⟨cell_kept hs.1 hg hr, (frozen_kept hs.1 hg hr).trans hs.2⟩) _) (ownFrom_below (Nat.le_refl _) (by simp; omega)))
    (fun _ _ _ _ _ hs _ _ => hs)
    ⟨⟨(bN.alloc _).cell, (bN.alloc _).frozen⟩, hB0⟩
    (fun x => { tmps := #[.slice (some ad) len cap, .int .i64 k, .int .i64 ys.length, undef, undef, undef, .int .u32 0, .int .i64 0, .pointer (some ⟨w.heap.size, 0, none⟩), undef, .int .u8 (x.2.toNat : Int), .int .i64 k, .bool (decide ((k : Int) < 0)), .bool (decide ((k : Int) < 0)),
      .int .i64 k, .slice (some ad) len cap, .int .i64 len, .int .i64 ys.length, .int .i64 ((len : Int) - ys.length), .bool (decide ((len : Int) - ys.length < k)), .bool (decide ((k : Int) < 0) || decide ((len : Int) - ys.length < k)), .slice (some ad) len cap, .int .i64 k, .int .i64 k, .int .i64 ys.length, .int .i64 ((k : Int) + ys.length),
      .slice (some (ad.add k)) ys.length (cap - k), .func (.func 151) #[] #[.pointer (some ⟨w.heap.size + 1, 0, none⟩)], .int .i64 (x.1 : Int), .int .u8 (x.2.toNat : Int), undef, undef, undef, undef, undef, undef], defers := [] }) ?assign ?body ?done ?stop
  case assign =>
    intro l x W K hK
    gi_wp2
    exact hK
  case body =>
    rintro l pre x W ⟨⟨hc, hf⟩, hB⟩ hlen
    obtain ⟨v0, v1⟩ := val_small pre (by omega)
    have hx2 := x.2.toNat_lt
    have hor := or_low (val pre) x.2 v0 v1
    gi_wp2
    exact ⟨(KeepsOthers.setCell _ _ _).from _, ⟨(Below.refl w.heap.size W).setCell (p := ⟨w.heap.size, 0, none⟩) (Nat.le_refl _) _, World.cell?_setCell_other _ _ _ _ (by simp)⟩,
      ⟨by rw [val_snoc]; exact World.cell?_setCell_same' _ _ _ (by rw [hc]; rfl), by rw [World.frozen?_setCell]; exact hf⟩, hB.setCell (p := ⟨w.heap.size, 0, none⟩) (Nat.le_refl _) _⟩
  case done =>
    rintro D zs W hD rfl ⟨⟨hc, _⟩, hB⟩ hK
    rw [val_all] at hc
    gi_wp2
    refine ⟨by simp, .inl ⟨_, _, rfl, run_takeDeferred hK, ?_⟩⟩
    exact ⟨_, results_tmp2 rfl _ _ _, rfl, hB.trans (belowK_b (w := w) (Nat.le_refl _) W D _ _ (by simp at hD; omega) hK rfl rfl)⟩
  case stop =>
    rintro D c pre W _ _ h _
    exact h.elim
end Go.Proofs.YtdaidhbmfocodaaGreat

/-
  Package dev: seen, which ranges over slices.Backward of writes. Conditions: those that each lemma states.
-/
namespace Go.Proofs.YtdaidhbmfocodaaGreat
open Go.RowKit Go.Shelf
attribute [local go_sem] Oper.semAt_some

/-! ### What is seen -/
/-- The bytes of the last write to a place, or those that last. -/
def seenW (ws : List Wt) (b : List UInt8) (n : Int) : List UInt8 := ws.foldl (fun acc x => if x.1 = n then x.2 else acc) b
def seenD (d : Dk) (n : Nat) : List UInt8 := seenW d.2 (d.1[n]?.getD []) n
theorem seenW_none {ws : List Wt} {b : List UInt8} {n : Int} (h : ∀ x ∈ ws, x.1 ≠ n) : seenW ws b n = b := by
  induction ws generalizing b with
  | nil => rfl
  | cons x r ih =>
    show seenW r (if x.1 = n then x.2 else b) n = b
    rw [if_neg (h x (List.mem_cons.2 (.inl rfl)))]
    exact ih fun y hy => h y (List.mem_cons.2 (.inr hy))
theorem seenW_append (ws vs : List Wt) (b : List UInt8) (n : Int) : seenW (ws ++ vs) b n = seenW vs (seenW ws b n) n := by simp [seenW]
theorem seenW_at {ws : List Wt} {b : List UInt8} {n : Int} {i : Nat} {x : Wt} (hi : ws[i]? = some x) (hx : x.1 = n) (h : ∀ j y, i < j → ws[j]? = some y → y.1 ≠ n) : seenW ws b n = x.2 := by
  have hil := (List.getElem?_eq_some_iff.1 hi).1
  have e : ws = ws.take i ++ (x :: ws.drop (i + 1)) := by
    have h1 := (List.take_append_drop i ws).symm
    rw [List.drop_eq_getElem_cons hil] at h1
    have h2 := (List.getElem?_eq_some_iff.1 hi).2
    rwa [h2] at h1
  rw [e, seenW_append]
  show seenW (ws.drop (i + 1)) (if x.1 = n then x.2 else seenW (ws.take i) b n) n = x.2
  rw [if_pos hx]
  refine seenW_none fun y hy => ?_
  obtain ⟨j, hj⟩ := List.getElem?_of_mem hy
  rw [List.getElem?_drop] at hj
  exact h _ y (by omega) hj
theorem seenW_length {ws : List Wt} {b : List UInt8} {n : Int} {k : Nat} (hb : b.length = k) (h : ∀ x ∈ ws, x.2.length = k) : (seenW ws b n).length = k := by
  induction ws generalizing b with
  | nil => exact hb
  | cons x r ih =>
    refine ih (b := if x.1 = n then x.2 else b) ?_ fun y hy => h y (List.mem_cons.2 (.inr hy))
    split
    · exact h x (List.mem_cons.2 (.inl rfl))
    · exact hb

/-- The numbers from m - 1 down, the first k of them. -/
def downs (m k : Nat) : List Nat := (List.range k).map fun j => m - 1 - j
theorem downs_succ (m k : Nat) : downs m (k + 1) = downs m k ++ [m - 1 - k] := by simp [downs, List.range_succ]
theorem downs_length (m k : Nat) : (downs m k).length = k := by simp [downs]
theorem mem_downs {m k i : Nat} (hk : k ≤ m) : i ∈ downs m k ↔ m - k ≤ i ∧ i < m := by
  simp only [downs, List.mem_map, List.mem_range]
  constructor
  · rintro ⟨j, hj, rfl⟩; omega
  · intro h; exact ⟨m - 1 - i, by omega, by omega⟩

set_option maxRecDepth 100000 in
set_option maxHeartbeats 2000000 in
/-- The closure of slices.Backward, for every loop body that keeps what lay below n₀. -/
theorem backW_in (F : Fence) (n : Nat) (hf : F.fn 109) (hro : F.round = none) (hn : 1 ≤ n) (l Bs n₀ cap m : Nat) (A : Option Addr) (ad : Addr) (at_ : Nat → Int) (E : Nat → Option Addr) (ln ca : Nat → Nat) (hm : m ≤ 9223372036854775807) (hA : 0 < m → A = some ad ∧ ad.block < n₀) (J Jx : List Nat → World → Prop)
    (hY : ∀ (pre : List Nat) (x : Nat) (W : World), J pre W → pre.length < m → YieldAt F (n - 1) Tryz.prog l #[.int .i64 (x : Int), .agg #[.int .i64 (at_ x), .slice (E x) (ln x) (ca x)]] W fun e W' =>
      (e = .returned (.bool true) ∧ J (pre ++ [x]) W' ∧ Keeps n₀ Bs W W') ∨ (e = .returned (.bool false) ∧ Jx (pre ++ [x]) W'))
    (W : World) (hBs : W.cell? ⟨Bs, 0, none⟩ = some (.slice A m cap)) (hc : ∀ j, j < m → W.cell? (ad.add (j * 2)) = some (.int .i64 (at_ j)) ∧ W.cell? ⟨(ad.add (j * 2)).block, (ad.add (j * 2)).off + 1, none⟩ = some (.slice (E j) (ln j) (ca j))) (h0 : J [] W) :
    CallsIn F n Tryz.prog 109 #[.func (.yield l) #[] #[], .pointer (some ⟨Bs, 0, none⟩)] W fun e W' => (∃ v, e = .returned v) ∧
      ((∃ ys, ys = downs m m ∧ J ys W') ∨ (∃ pre, (∃ k, k ≤ m ∧ pre = downs m k) ∧ Jx pre W')) := by
  refine callsIn_of_wp Tryz.func109 rfl hf ?_ hro
  simp only [Tryz.ntmps109, List.size_toArray, List.length_cons, List.length_nil, Nat.reduceAdd, Nat.reduceSub, Array.replicate_succ, Array.replicate_zero, List.push_toArray, List.append_toArray, List.nil_append, List.cons_append]
  have HC := Lib.hid hc
  clear hc
  replace hA := Lib.hid hA
  gi_wp2
  gi_loopw [3] (fun i wr => ∃ k : Nat, k ≤ m ∧ i = .int .i64 ((m : Int) - 1 - k) ∧ J (downs m k) wr ∧ Below n₀ W wr ∧ wr.cell? ⟨Bs, 0, none⟩ = some (.slice A m cap))
    (fun i _ => (intOf i + 1).toNat)
  case atStart => exact ⟨0, Nat.zero_le _, by simp, h0, Below.refl _ _, hBs⟩
  case round =>
    obtain ⟨k, hk, rfl, hJs, hnx, hbs⟩ := hrel
    by_cases hlt : k < m
    · obtain ⟨rfl, hb⟩ := hA.out (by omega)
      have hx := HC.out (m - 1 - k) (by omega)
      have hc1 : wr.cell? (ad.add ((m - 1 - k) * 2)) = some (.int .i64 (at_ (m - 1 - k))) := (hnx.cell (p := ad.add ((m - 1 - k) * 2)) (by rw [add_block]; exact hb)).trans hx.1
      have hc2 : wr.cell? ⟨(ad.add ((m - 1 - k) * 2)).block, (ad.add ((m - 1 - k) * 2)).off + 1, none⟩ = some (.slice (E (m - 1 - k)) (ln (m - 1 - k)) (ca (m - 1 - k))) := (hnx.cell (p := ⟨(ad.add ((m - 1 - k) * 2)).block, (ad.add ((m - 1 - k) * 2)).off + 1, none⟩) (by rw [add_block]; exact hb)).trans hx.2
      clear hx
      obtain ⟨fn, tmps, assign, body, hy, hR⟩ := hY _ (m - 1 - k) wr hJs (by rw [downs_length]; exact hlt)
      try dsimp only at hy
      have e1 : ((m : Int) - 1 - k).toNat = m - 1 - k := by omega
      have e2 : ((m - 1 - k : Nat) : Int) = (m : Int) - 1 - k := by omega
      rw [e2] at hy
      clear e2
      have hds := Lib.hid (downs_succ m k)
      generalize at_ (m - 1 - k) = q1 at *
      generalize E (m - 1 - k) = q2 at *
      generalize ln (m - 1 - k) = q3 at *
      generalize ca (m - 1 - k) = q4 at *
      gi_wp2
      refine hR.mono ?_
      rintro e W3 (⟨rfl, hJ3, hk3⟩ | ⟨rfl, hJx3⟩)
      · gi_wp2
        go_roundw
        case rel => exact ⟨k + 1, by omega, by go_num, by rw [hds.out]; exact hJ3, hnx.trans hk3.1, hk3.2.trans hbs⟩
        case measure => simp [intOf]; omega
      · gi_wp2
        refine bodyPost_ret (results_none rfl _ _ _) rfl ?_
        exact ⟨⟨_, rfl⟩, .inr ⟨_, ⟨k + 1, by omega, hds.out.symm⟩, hJx3⟩⟩
    · obtain rfl : k = m := by omega
      gi_wp2
      go_end0
      exact ⟨⟨_, rfl⟩, .inl ⟨_, rfl, hJs⟩⟩

set_option maxHeartbeats 1000000 in
/-- slices.Backward(s): the slice value is boxed; the function value captures the box. -/
theorem backwardW_in (F : Fence) (n : Nat) (hf : F.fn 85) (hro : F.round = none) (a : Option Addr) (len cap : Nat) (w : World) :
    CallsIn F n Tryz.prog 85 #[.slice a len cap] w fun e w' => e = .returned (.func (.func 109) #[] #[.pointer (some ⟨w.heap.size, 0, none⟩)]) ∧ w' = w.alloc (.cells #[.slice a len cap] 24) := by
  refine callsIn_of_wp Tryz.func85 rfl hf ?_ hro
  simp only [Tryz.ntmps85, List.size_toArray, List.length_cons, List.length_nil, Nat.reduceAdd, Nat.reduceSub, Array.replicate_succ, Array.replicate_zero, List.push_toArray, List.append_toArray, List.nil_append, List.cons_append]
  gi_wp2
  go_ret
  exact ⟨rfl, rfl⟩

/-- slices.Backward(s) hands back a value that gives the elements from behind: all, or the first k of them. -/
theorem backwardW_stops (F : Fence) (n : Nat) (hf : F.fn 109) (hro : F.round = none) (hn : 1 ≤ n) (Bs n₀ cap m : Nat) (A : Option Addr) (ad : Addr) (at_ : Nat → Int) (E : Nat → Option Addr) (ln ca : Nat → Nat) (hm : m ≤ 9223372036854775807) (w : World) (hBs : Bs < w.heap.size) (hn₀ : n₀ ≤ w.heap.size)
    (hc : w.cell? ⟨Bs, 0, none⟩ = some (.slice A m cap)) (hA : 0 < m → A = some ad ∧ ad.block < n₀) (hx : ∀ j, j < m → w.cell? (ad.add (j * 2)) = some (.int .i64 (at_ j)) ∧ w.cell? ⟨(ad.add (j * 2)).block, (ad.add (j * 2)).off + 1, none⟩ = some (.slice (E j) (ln j) (ca j))) :
    SeqStopsK F n Tryz.prog 109 #[.pointer (some ⟨Bs, 0, none⟩)] (fun x : Nat => #[Value.int .i64 (x : Int), Value.agg #[.int .i64 (at_ x), .slice (E x) (ln x) (ca x)]]) (Keeps n₀ Bs) (fun ys => ys = downs m m)
      (fun pre => ∃ k, k ≤ m ∧ pre = downs m k) m w := fun l J Jx W hW _ _ hY h0 => by
  have hc' := (hW.cell (p := ⟨Bs, 0, none⟩) hBs).trans hc
  exact backW_in F n hf hro hn l Bs n₀ cap m A ad at_ E ln ca hm hA J Jx hY W hc' (fun j hj => ⟨(hW.cell (p := ad.add (j * 2)) (by rw [add_block]; have := (hA (by omega)).2; omega)).trans (hx j hj).1, (hW.cell (p := ⟨(ad.add (j * 2)).block, (ad.add (j * 2)).off + 1, none⟩) (by rw [add_block]; have := (hA (by omega)).2; omega)).trans (hx j hj).2⟩) h0

/-- A disk's writes, their places and bytes as functions. -/
theorem wts_fn {w : World} {B : Option Addr} {ws : List Wt} (h : ∀ i x, ws[i]? = some x → ∃ ad v, B = some ad ∧ Old w (ad.add (i * 2)) ∧ Old w (ad.add (i * 2 + 1)) ∧ w.cell? (ad.add (i * 2)) = some (.int .i64 x.1) ∧ w.cell? (ad.add (i * 2 + 1)) = some v ∧ rBy (Old w) w [v] x.2 ∧ -9223372036854775808 ≤ x.1 ∧ x.1 ≤ 9223372036854775807) :
    ∃ (ad : Addr) (E : Nat → Option Addr) (ca : Nat → Nat), (0 < ws.length → B = some ad ∧ ad.block < w.heap.size) ∧ ∀ i x, ws[i]? = some x → w.cell? (ad.add (i * 2)) = some (.int .i64 x.1) ∧ w.cell? ⟨(ad.add (i * 2)).block, (ad.add (i * 2)).off + 1, none⟩ = some (.slice (E i) x.2.length (ca i)) ∧ rBy (Old w) w [.slice (E i) x.2.length (ca i)] x.2 := by
  have h2 : ∀ i, ∃ f : Option Addr × Nat, ∀ x, ws[i]? = some x → ∃ ad, B = some ad ∧ ad.block < w.heap.size ∧ w.cell? (ad.add (i * 2)) = some (.int .i64 x.1) ∧ w.cell? ⟨(ad.add (i * 2)).block, (ad.add (i * 2)).off + 1, none⟩ = some (.slice f.1 x.2.length f.2) ∧ rBy (Old w) w [.slice f.1 x.2.length f.2] x.2 := fun i => by
    cases hx : ws[i]? with
    | none => exact ⟨(none, 0), fun x e => by cases e⟩
    | some x =>
      obtain ⟨ad, v, rfl, o1, _, c1, c2, hv, _⟩ := h i x hx
      obtain ⟨E, c, rfl, _⟩ := rBy_open hv
      rw [add_next] at c2
      exact ⟨(E, c), fun y e => by cases e; exact ⟨ad, rfl, by unfold Old at o1; rwa [add_block] at o1, c1, c2, hv⟩⟩
  obtain ⟨f, hf⟩ : ∃ f : Nat → Option Addr × Nat, ∀ i x, ws[i]? = some x → ∃ ad, B = some ad ∧ ad.block < w.heap.size ∧ w.cell? (ad.add (i * 2)) = some (.int .i64 x.1) ∧ w.cell? ⟨(ad.add (i * 2)).block, (ad.add (i * 2)).off + 1, none⟩ = some (.slice (f i).1 x.2.length (f i).2) ∧ rBy (Old w) w [.slice (f i).1 x.2.length (f i).2] x.2 :=
    ⟨fun i => Classical.choose (h2 i), fun i => Classical.choose_spec (h2 i)⟩
  rcases B with _ | ad
  · refine ⟨⟨0, 0, none⟩, fun i => (f i).1, fun i => (f i).2, fun h0 => ?_, fun i x hi => ?_⟩
    · obtain ⟨_, e, _⟩ := hf 0 _ (List.getElem?_eq_getElem h0)
      cases e
    · obtain ⟨_, e, _⟩ := hf i x hi
      cases e
  · refine ⟨ad, fun i => (f i).1, fun i => (f i).2, fun h0 => ?_, fun i x hi => ?_⟩
    · obtain ⟨_, e, hb, _⟩ := hf 0 _ (List.getElem?_eq_getElem h0)
      cases e
      exact ⟨rfl, hb⟩
    · obtain ⟨_, e, _, hr⟩ := hf i x hi
      cases e
      exact hr

set_option maxRecDepth 100000 in
set_option maxHeartbeats 4000000 in
theorem seen_in (F : Fence) (n : Nat) (h3 : F.fn 60) (h5 : F.fn 85) (h7 : F.fn 109) (hro : F.round = none) (hn : 3 ≤ n)
    (v : Value) (d : Dk) (k : Nat) (hk : k < d.1.length) (w : World) (h : Dsk (Old w) w v d) :
    CallsIn F n Tryz.prog 60 #[v, .int .i64 k] w fun e W' => ∃ u, e = .returned u ∧ rBy (Old w) w [u] (seenD d k) ∧ Below w.heap.size w W' := by
  have h1 : 1 ≤ n := by omega
  obtain ⟨A, c, B, c', rfl, l1, m1, l2, m2, hA, hB⟩ := h.open
  obtain ⟨ad, E, ca, had, hfn⟩ := wts_fn hB
  obtain ⟨x, hx⟩ : ∃ x, d.1[k]? = some x := ⟨_, List.getElem?_eq_getElem hk⟩
  obtain ⟨a1, v1, rfl, ho1, hc1, hby1⟩ := hA k x hx
  have HF := Lib.hid hfn
  clear hA hB h hfn
  have hsd : Hid (seenD d k = seenW d.2 x k) := Lib.hid (by unfold seenD; rw [hx]; rfl)
  replace hx := Lib.hid hx
  obtain ⟨N, hN⟩ : ∃ N, d.1.length = N := ⟨_, rfl⟩
  obtain ⟨m, hm⟩ : ∃ m, d.2.length = m := ⟨_, rfl⟩
  rw [hN] at l1 hk ⊢
  rw [hm] at l2 had ⊢
  replace hN := Lib.hid hN
  replace hm := Lib.hid hm
  have hfa : Hid (∀ j, j < m → w.cell? (ad.add (j * 2)) = some (.int .i64 ((d.2[j]?.getD (0, [])).1)) ∧ w.cell? ⟨(ad.add (j * 2)).block, (ad.add (j * 2)).off + 1, none⟩ = some (.slice (E j) (d.2[j]?.getD (0, [])).2.length (ca j))) := Lib.hid fun j hj => by
    have hj' : d.2[j]? = some (d.2[j]'(by rw [hm.out]; exact hj)) := List.getElem?_eq_getElem _
    rw [hj']
    exact ⟨(HF.out j _ hj').1, (HF.out j _ hj').2.1⟩
  obtain ⟨E1, ce1, rfl, _⟩ := rBy_open hby1
  replace had := Lib.hid had
  refine callsIn_of_wp_marks Tryz.func60 rfl h3 ?_ hro
  simp only [Tryz.ntmps60, List.size_toArray, List.length_cons, List.length_nil, Nat.reduceAdd, Nat.reduceSub, Array.replicate_succ, Array.replicate_zero, List.push_toArray, List.append_toArray, List.nil_append, List.cons_append]
  gi_wp2_with (gi_at_call 85; refine (backwardW_in F (n - 1) h5 hro _ _ _ _).mono ?_; rintro e w' ⟨rfl, rfl⟩)
  obtain ⟨W0, hW0, hB0, hs0, b0, b1, b2, b2f, b3⟩ : ∃ W0, (((w.alloc (.cells #[.slice (some a1) N c, .slice B m c'] 26)).alloc (.cells #[.int .i64 (k : Int)] 3)).alloc (.cells #[.slice none 0 0] 27)).alloc (.cells #[.slice B m c'] 24) = W0 ∧ Below w.heap.size w W0 ∧ W0.heap.size = w.heap.size + 4 ∧
      W0.cell? ⟨w.heap.size, 0, none⟩ = some (.slice (some a1) N c) ∧ W0.cell? ⟨w.heap.size + 1, 0, none⟩ = some (.int .i64 (k : Int)) ∧ W0.cell? ⟨w.heap.size + 1 + 1, 0, none⟩ = some (.slice none 0 0) ∧ W0.frozen? ⟨w.heap.size + 1 + 1, 0, none⟩ = false ∧ W0.cell? ⟨w.heap.size + 1 + 1 + 1, 0, none⟩ = some (.slice B m c') :=
    ⟨_, rfl, ((((Below.refl _ w).alloc (Nat.le_refl _) _).alloc (by simp) _).alloc (by simp; omega) _).alloc (by simp; omega) _, by simp, by go_simp, by go_simp, by go_simp, by go_simp, by go_simp⟩
  rw [hW0]
  clear hW0
  obtain ⟨atf, hat⟩ : ∃ f : Nat → Int, f = fun j => (d.2[j]?.getD (0, [])).1 := ⟨_, rfl⟩
  obtain ⟨lnf, hln⟩ : ∃ f : Nat → Nat, f = fun j => (d.2[j]?.getD (0, [])).2.length := ⟨_, rfl⟩
  have hfb : ∀ j, j < m → W0.cell? (ad.add (j * 2)) = some (.int .i64 (atf j)) ∧ W0.cell? ⟨(ad.add (j * 2)).block, (ad.add (j * 2)).off + 1, none⟩ = some (.slice (E j) (lnf j) (ca j)) := fun j hj => by
    have hb := (had.out (by omega)).2
    rw [hat, hln]
    exact ⟨(hB0.cell (p := ad.add (j * 2)) (by rw [add_block]; exact hb)).trans (hfa.out j hj).1, (hB0.cell (p := ⟨(ad.add (j * 2)).block, (ad.add (j * 2)).off + 1, none⟩) (by rw [add_block]; exact hb)).trans (hfa.out j hj).2⟩
  have hlo : w.heap.size ≤ W0.heap.size := hB0.size
  replace hat := Lib.hid hat
  replace hln := Lib.hid hln
  refine wpIn_rangeFunc_ownH hro h1 (gf := 109) (lb := #[.pointer (some ⟨w.heap.size + 1 + 1 + 1, 0, none⟩)]) rfl h7 (enters_of Tryz.func109 (by kernel_rfl) rfl)
    (backwardW_stops F (n - 1) h7 hro (by omega) (w.heap.size + 1 + 1 + 1) w.heap.size c' m B ad atf E lnf ca (by omega) W0 (by omega) hlo b3 had.out hfb)
    (fun h h' => Keeps.trans h h') (fun W l o o' hl h1 h2 h3 => keeps_b (w := W0) (by omega) hlo l o o' hl h1 h2 h3) (Below.refl _ _) (fun _ => rfl)
    (fun pre W => ((∀ j ∈ pre, atf j ≠ k) ∧ W.cell? ⟨w.heap.size, 0, none⟩ = some (.slice (some a1) N c) ∧ W.cell? ⟨w.heap.size + 1, 0, none⟩ = some (.int .i64 (k : Int)) ∧ W.cell? ⟨w.heap.size + 1 + 1, 0, none⟩ = some (.slice none 0 0) ∧ W.frozen? ⟨w.heap.size + 1 + 1, 0, none⟩ = false ∧ W.cell? ⟨w.heap.size + 1 + 1 + 1, 0, none⟩ = some (.slice B m c')) ∧ Below w.heap.size w W)
    (fun cd pre W => (cd = .ret ∧ ∃ p i, pre = p ++ [i] ∧ (∀ j ∈ p, atf j ≠ k) ∧ atf i = k ∧ W.cell? ⟨w.heap.size + 1 + 1, 0, none⟩ = some (.slice (E i) (lnf i) (ca i))) ∧ Below w.heap.size w W)
    (OwnFrom.and (Own.from (fun s A B row hs hg hr => ⟨hs.1, cell_kept hs.2.1 hg hr, cell_kept hs.2.2.1 hg hr, cell_kept hs.2.2.2.1 hg hr, (frozen_kept hs.2.2.2.1 hg hr).trans hs.2.2.2.2.1, cell_kept hs.2.2.2.2.2 hg hr⟩) _) (ownFrom_below (Nat.le_refl _) hlo))
    (fun cd => OwnFrom.and (Own.from (fun s A B row hs hg hr => by
      obtain ⟨e, p, i, e2, h1, h2, hc⟩ := hs
      exact ⟨e, p, i, e2, h1, h2, cell_kept hc hg hr⟩) _) (ownFrom_below (Nat.le_refl _) hlo))
    ⟨⟨by simp, b0, b1, b2, b2f, b3⟩, hB0⟩
    (fun x a' W => ∃ g, a' = { tmps := #[.agg #[.slice (some a1) N c, .slice B m c'], .int .i64 (k : Int), .pointer (some ⟨w.heap.size, 0, none⟩), .pointer (some ⟨w.heap.size + 1, 0, none⟩), .pointer (some ⟨w.heap.size + 1 + 1, 0, none⟩), undef, .pointer (some ⟨g, 0, none⟩), .pointer (some ⟨w.heap.size, 1, none⟩), .slice B m c',
      .func (.func 109) #[] #[.pointer (some ⟨w.heap.size + 1 + 1 + 1, 0, none⟩)], .int .i64 (x : Int), .agg #[.int .i64 (atf x), .slice (E x) (lnf x) (ca x)], undef, undef, undef, undef, undef, undef, undef, undef, undef, undef, undef], defers := [] } ∧
      W.cell? ⟨g, 0, none⟩ = some (.int .i64 (atf x)) ∧ W.cell? ⟨g, 1, none⟩ = some (.slice (E x) (lnf x) (ca x)))
    (fun x a' => Own.from (fun s A B row hs hg hr => by
      obtain ⟨g, e, h1, h2⟩ := hs
      exact ⟨g, e, cell_kept h1 hg hr, cell_kept h2 hg hr⟩) _) ?assign ?body ?done ?stop
  case assign =>
    rintro l pre x W K ⟨⟨hp, c0, c1, c2, c2f, c3⟩, hb⟩ hK
    have hlW : w.heap.size + 1 + 1 < W.heap.size := World.block_lt_of_cell? _ _ c2
    gi_wp2
    exact hK _ _ ((KeepsOthers.alloc _ _).from _) ⟨(Below.refl _ W).alloc hb.size _, (Lib.cell?_alloc_some _ c3).trans c3.symm⟩
      ⟨⟨hp, Lib.cell?_alloc_some _ c0, Lib.cell?_alloc_some _ c1, Lib.cell?_alloc_some _ c2, (World.frozen?_of_block (Below.heap_alloc W _ _ hlW)).trans c2f, Lib.cell?_alloc_some _ c3⟩, hb.alloc hb.size _⟩ ⟨W.heap.size, rfl, by go_simp, by go_simp⟩
  case body =>
    rintro l pre x a' W hl hloop ⟨⟨hp, c0, c1, c2, c2f, c3⟩, hb⟩ ⟨g, rfl, g0, g1⟩ hlen
    by_cases he : atf x = k
    · have he' : (atf x == (k : Int)) = true := by simpa using he
      replace he := Lib.hid he
      gi_wp2
      refine ⟨(KeepsOthers.setCell _ _ _).from _, ⟨rfl, pre, x, rfl, hp, he.out, World.cell?_setCell_same' _ _ _ (by rw [c2]; rfl)⟩, hb.setCell (by simp; omega) _⟩
    · have he' : (atf x == (k : Int)) = false := by simpa using he
      replace he := Lib.hid he
      gi_wp2
      refine ⟨KeepsFrom.refl _ _, ⟨Below.refl _ _, rfl⟩, ⟨fun j hj => (List.mem_append.1 hj).elim (hp j) (fun e => by simp at e; rw [e]; exact he.out), c0, c1, c2, c2f, c3⟩, hb⟩
  case done =>
    rintro D zs W hD rfl ⟨⟨hp, c0, c1, c2, c2f, c3⟩, hb⟩ hK
    have hcx := (hb.cell ho1).trans hc1
    have hval : Hid (rBy (Old w) w [.slice E1 x.length ce1] (seenD d k)) := Lib.hid (by
      rw [hsd.out, seenW_none]
      · exact hby1
      · intro y hy
        obtain ⟨j, hj⟩ := List.getElem?_of_mem hy
        have := hp j ((mem_downs (Nat.le_refl _)).2 ⟨by omega, by rw [← hm.out]; exact (List.getElem?_eq_some_iff.1 hj).1⟩)
        rw [hat.out] at this
        simpa [hj] using this)
    gi_wp2
    have hK' := (KeepsOthers.setCell W ⟨w.heap.size + 1 + 1, 0, none⟩ (.slice E1 x.length ce1)).same D _ hK rfl
    refine ⟨by simp, .inl ⟨_, _, rfl, run_takeDeferred hK', ?_⟩⟩
    have hc5 := cell_kept (World.cell?_setCell_same' W ⟨w.heap.size + 1 + 1, 0, none⟩ (.slice E1 x.length ce1) (by rw [c2]; rfl)) (grownBy_putObj' _ D (.deferred none)) (fun r e => by cases e; exact ⟨_, hK', rfl⟩)
    refine ⟨.slice E1 x.length ce1, ?_, _, rfl, hval.out, (hb.setCell (p := ⟨w.heap.size + 1 + 1, 0, none⟩) (by simp; omega) _).trans (belowK_b hlo _ D _ _ hD hK' rfl rfl)⟩
    simp [results, Tryz.f60, go_sem, hc5]
  case stop =>
    rintro D cd pre W hD ⟨q, hq, rfl⟩ ⟨⟨rfl, p, i, hpi, h1, h2, hc⟩, hb⟩ hK
    have hi : i ∈ downs m q := by rw [hpi]; simp
    obtain ⟨hi1, hi2⟩ := (mem_downs hq).1 hi
    have hval : Hid (rBy (Old w) w [.slice (E i) (lnf i) (ca i)] (seenD d k)) := Lib.hid (by
      have hx2 : d.2[i]? = some (d.2[i]'(by rw [hm.out]; exact hi2)) := List.getElem?_eq_getElem _
      have e1 : atf i = (d.2[i]'(by rw [hm.out]; exact hi2)).1 := by rw [hat.out]; simp [hx2]
      have e2 : lnf i = (d.2[i]'(by rw [hm.out]; exact hi2)).2.length := by rw [hln.out]; simp [hx2]
      rw [hsd.out, e2, seenW_at hx2 (by rw [← e1]; exact h2)]
      · exact (HF.out i _ hx2).2.2
      · intro j y hij hj
        have hjm : j < m := by rw [← hm.out]; exact (List.getElem?_eq_some_iff.1 hj).1
        have hjd : j ∈ downs m q := (mem_downs hq).2 ⟨by omega, hjm⟩
        rw [hpi] at hjd
        have := h1 j ((List.mem_append.1 hjd).elim id (fun e => by simp at e; omega))
        rw [hat.out] at this
        simpa [hj] using this)
    gi_wp2
    refine ⟨by simp, .inl ⟨_, _, rfl, run_takeDeferred hK, ?_⟩⟩
    have hc5 := cell_kept hc (grownBy_putObj' _ D (.deferred none)) (fun r e => by cases e; exact ⟨_, hK, rfl⟩)
    refine ⟨.slice (E i) (lnf i) (ca i), ?_, _, rfl, hval.out, hb.trans (belowK_b hlo _ D _ _ hD hK rfl rfl)⟩
    simp [results, Tryz.f60, go_sem, hc5]

theorem seen_any (v : Value) (d : Dk) (k : Nat) (hk : k < d.1.length) (w : World) (h : Dsk (Old w) w v d) :
    Calls Tryz.prog 60 #[v, .int .i64 k] w fun e W' => ∃ u, e = .returned u ∧ rBy (Old w) w [u] (seenD d k) ∧ Below w.heap.size w W' :=
  callsIn_wide.1 (seen_in Fence.wide 3 trivial trivial trivial rfl (Nat.le_refl _) v d k hk w h)
end Go.Proofs.YtdaidhbmfocodaaGreat
