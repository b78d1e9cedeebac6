/-
  The function that taskmilllaw.LockAlone makes: who is let in.
-/
import Derived.Test.YtdpcbmekplcllaaAa
import Derived.Laws.OwnMore
import Derived.LoopN
namespace Go.Proofs.Ytdpcbmekplcllaa
open Go.RowKit

/-- The statement that is the region n, and what follows it. -/
def cutAt (n : Nat) : Code → Option (Code × Code)
  | .seq (.region id ops dr) b => bif Nat.beq id n then some (.region id ops dr, b) else cutAt n b
  | .seq _ b => cutAt n b
  | _ => none
/-- The loop n, and what follows it. -/
def loopFor (n : Nat) : Code → Option (Code × Code)
  | .seq (.seq _ (.block id (.loop b))) r => bif Nat.beq id n then some (b, r) else loopFor n r
  | .seq _ r => loopFor n r
  | _ => none
/-- What the block n holds, and what follows it. -/
def blockIn (n : Nat) : Code → Option (Code × Code)
  | .seq (.block id b) r => bif Nat.beq id n then some (b, r) else blockIn n r
  | .seq _ r => blockIn n r
  | _ => none

theorem flat_rep (N : Nat) : (List.replicate N (0 : Int)).flatMap KI.f = List.replicate N (.int .i64 0) := by
  induction N with
  | zero => rfl
  | succ N ih => rw [List.replicate_succ, List.flatMap_cons, ih, List.replicate_succ]; rfl
theorem make_row (w : World) (N : Nat) (hN : N ≤ 1000) : ∃ w', (Instr.makeSlice 36 (.int .i64 (N : Int)) (.int .i64 (N : Int))).run Try.prog w = .ok (.slice (some ⟨w.heap.size, 0, none⟩) N N) w' ∧ Own KI w.heap.size w' (.slice (some ⟨w.heap.size, 0, none⟩) N N) (List.replicate N 0) ∧ Below w.heap.size w w' := by
  obtain ⟨i0, hi, h0, h1, h2⟩ := info_parts Try.info3
  obtain ⟨w', hr, ho, hg⟩ := run_make_full (P := Try.prog) w w.heap.size 36 3 i0 (.int .i64 0) 1 Try.underlying36 hi h0 h1 .i64 .i64 N (by rw [h2]; omega) (by unfold maxLen; omega) (Nat.le_refl _)
  refine ⟨w', hr, ?_, (Below.refl _ _).grown hg (Nat.le_refl _) (fun k hk => by cases hk)⟩
  unfold Own
  rw [List.length_replicate, flat_rep]
  rw [show (Value.int .i64 0).cells = #[Value.int .i64 0] from rfl, Nat.mul_one, toList_madeCells_one] at ho
  exact ho
theorem flat_seti : ∀ (xs : List Int) (i : Nat) (v : Int), (xs.set i v).flatMap KI.f = (xs.flatMap KI.f).set i (.int .i64 v)
  | [], _, _ => rfl
  | x :: r, 0, v => rfl
  | x :: r, i + 1, v => by
    have h := flat_seti r i v
    rw [List.set_cons_succ, List.flatMap_cons, h]
    rfl
theorem own_seti {base : Nat} {w : World} {g n c0 : Nat} {xs : List Int} (h : Own KI base w (.slice (some ⟨g, 0, none⟩) n c0) xs) (hn : xs.length = n) (i : Nat) (v : Int) : Own KI base (w.setCell ⟨g, i, none⟩ (.int .i64 v)) (.slice (some ⟨g, 0, none⟩) n c0) (xs.set i v) := by
  unfold Own at h ⊢
  rw [List.length_set, flat_seti]
  rw [hn] at h ⊢
  exact (h.stored _ _).1
theorem own_inti {base : Nat} {w : World} {g n c0 : Nat} {xs : List Int} (h : Own KI base w (.slice (some ⟨g, 0, none⟩) n c0) xs) {j : Nat} (hj : j < xs.length) : w.cell? ⟨g, j, none⟩ = some (.int .i64 (xs.getD j 0)) ∧ w.frozen? ⟨g, j, none⟩ = false := by
  obtain ⟨b, off, c', ev, _, hl⟩ := h.isl.at ki (by omega)
  cases ev
  have := hl.ints hj
  rw [Nat.zero_add] at this
  refine ⟨this, ?_⟩
  unfold Own at h
  exact h.frozenAt _
theorem set_block1 {w : World} {R : Nat} {x y : Value} {t : TypeId} (h : w.heap[R]? = some (.cells #[x] t (0, 0))) : (w.setCell ⟨R, 0, none⟩ y).heap[R]? = some (.cells #[y] t (0, 0)) := by
  simp [World.setCell, h, Array.getElem?_modify]

/-- The variables that LockAlone hands to it: moves, kind, enters. -/
structure St (W : World) (BM BK BE G n : Nat) (am : Option Addr) (cm : Nat) (ks : List Int) (e : Int) : Prop where
  m : W.heap[BM]? = some (.cells #[.slice am n cm] 36)
  k : W.heap[BK]? = some (.cells #[.slice (some ⟨G, 0, none⟩) (n + 1) (n + 1)] 36)
  e : W.heap[BE]? = some (.cells #[.int .i64 e] 3)
  r : Own KI G W (.slice (some ⟨G, 0, none⟩) (n + 1) (n + 1)) ks
  l : ks.length = n + 1
  d : BM ≠ G ∧ BM ≠ BE ∧ BK ≠ G ∧ BK ≠ BE ∧ BE ≠ G
/-- All blocks but two are as they were. -/
structure Bt (G E : Nat) (w w' : World) : Prop where
  os : w'.os = w.os
  tape : w'.tape = w.tape
  output : w'.output = w.output
  size : w'.heap.size = w.heap.size
  block : ∀ k, k ≠ G → k ≠ E → w'.heap[k]? = w.heap[k]?
theorem Bt.refl (G E : Nat) (w : World) : Bt G E w w := ⟨rfl, rfl, rfl, rfl, fun _ _ _ => rfl⟩
theorem Bt.trans {G E : Nat} {a b c : World} (h : Bt G E a b) (k : Bt G E b c) : Bt G E a c :=
  ⟨k.os.trans h.os, k.tape.trans h.tape, k.output.trans h.output, k.size.trans h.size, fun i h1 h2 => (k.block i h1 h2).trans (h.block i h1 h2)⟩
theorem Bt.drew {G E : Nat} {a b : World} (h : Bt G E a b) : Bt G E a b.drew := h.trans ⟨rfl, rfl, rfl, rfl, fun _ _ _ => rfl⟩
theorem heap_size_set (w : World) (ad : Addr) (v : Value) : (w.setCell ad v).heap.size = w.heap.size := by
  unfold World.setCell
  simp
theorem Bt.set {G E : Nat} {a b : World} (h : Bt G E a b) {R i : Nat} (hR : R = G ∨ R = E) (v : Value) : Bt G E a (b.setCell ⟨R, i, none⟩ v) :=
  h.trans ⟨rfl, rfl, rfl, heap_size_set _ _ _, fun k h1 h2 => Below.heap_setCell _ _ _ _ (by simp only; rcases hR with rfl | rfl <;> assumption)⟩
theorem Bt.below {G E B : Nat} {w w' : World} (h : Bt G E w w') (h1 : B ≤ G) (h2 : B ≤ E) : Below B w w' := ⟨h.os, h.tape, h.output, Nat.le_of_eq h.size.symm, fun k hk => h.block k (by omega) (by omega)⟩
theorem St.keep {W W' : World} {BM BK BE G n : Nat} {am : Option Addr} {cm : Nat} {ks : List Int} {e : Int} (h : St W BM BK BE G n am cm ks e) (hb : Below W.heap.size W W') : St W' BM BK BE G n am cm ks e :=
  ⟨keep_below h.m hb, keep_below h.k hb, keep_below h.e hb, h.r.below hb, h.l, h.d⟩
theorem St.setK {W : World} {BM BK BE G n : Nat} {am : Option Addr} {cm : Nat} {ks : List Int} {e : Int} (h : St W BM BK BE G n am cm ks e) (i : Nat) (v : Int) : St (W.setCell ⟨G, i, none⟩ (.int .i64 v)) BM BK BE G n am cm (ks.set i v) e :=
  ⟨keep_set h.m h.d.1, keep_set h.k h.d.2.2.1, keep_set h.e h.d.2.2.2.2, own_seti h.r h.l i v, by simpa using h.l, h.d⟩
theorem St.setE {W : World} {BM BK BE G n : Nat} {am : Option Addr} {cm : Nat} {ks : List Int} {e : Int} (h : St W BM BK BE G n am cm ks e) (v : Int) : St (W.setCell ⟨BE, 0, none⟩ (.int .i64 v)) BM BK BE G n am cm ks v :=
  ⟨keep_set h.m h.d.2.1, keep_set h.k h.d.2.2.2.1, set_block1 h.e, h.r.keep fun k hk => (by cases hk; exact Below.heap_setCell _ _ _ _ (by have := h.d.2.2.2.2; simp; omega)), h.l, h.d⟩
theorem St.drew {W : World} {BM BK BE G n : Nat} {am : Option Addr} {cm : Nat} {ks : List Int} {e : Int} (h : St W BM BK BE G n am cm ks e) : St W.drew BM BK BE G n am cm ks e := h.keep (Below.refl _ _).drew

/-- What follows a round. -/
def NxT (a : Option Addr) (c BM BK BE G n : Nat) (am : Option Addr) (cm : Nat) (ts ks : List Int) (e : Int) (i : Nat) (W : World) (N : Act → World → Prop) : Prop := ∀ (s4 s5 s7 s8 s9 s10 s11 s12 s13 s14 s15 s16 s17 s18 s19 s20 s21 s22 s23 s24 s25 s26 s27 s28 s29 s30 s31 s32 s33 s34 s35 s36 s37 s38 s39 s40 s41 s42 s43 s44 s45 s46 : Value) (W' : World), St W' BM BK BE G n am cm ks e → Bt G BE W W' → N { tmps := (.slice a ts.length c :: .pointer (some ⟨BM, 0, none⟩) :: .pointer (some ⟨BK, 0, none⟩) :: .pointer (some ⟨BE, 0, none⟩) :: s4 :: s5 :: .int .i64 ((i : Int) + 1) :: s7 :: s8 :: s9 :: s10 :: s11 :: s12 :: s13 :: s14 :: s15 :: s16 :: s17 :: s18 :: s19 :: s20 :: s21 :: s22 :: s23 :: s24 :: s25 :: s26 :: s27 :: s28 :: s29 :: s30 :: s31 :: s32 :: s33 :: s34 :: s35 :: s36 :: s37 :: s38 :: s39 :: s40 :: s41 :: s42 :: s43 :: s44 :: s45 :: s46 :: []).toArray, defers := [] } W'

set_option maxRecDepth 100000 in
set_option maxHeartbeats 4000000 in
theorem let_round (a : Option Addr) (c BM BK BE G n : Nat) (am : Option Addr) (cm : Nat) (ts ks : List Int) (e : Int) (i T : Nat) (hi : i < ts.length) (hlen : ts.length ≤ 1000) (_hn : n ≤ 200) (ht : ts.getD i 0 = (T : Int)) (Wt : World) (hS : St Wt BM BK BE G n am cm ks e) (hT : IsL KI Wt (.slice a ts.length c) ts) (h1 : 1 ≤ T) (h2 : T ≤ n) (h3 : 3 ≤ ks.getD T 0) (h4 : ks.getD T 0 ≤ 4) (h5 : e ≤ T)
    {s4 s5 s7 s8 s9 s10 s11 s12 s13 s14 s15 s16 s17 s18 s19 s20 s21 s22 s23 s24 s25 s26 s27 s28 s29 s30 s31 s32 s33 s34 s35 s36 s37 s38 s39 s40 s41 s42 s43 s44 s45 s46 : Value} (N : Act → World → Prop) (Q0 : Exit → Act → World → Prop) (b r : Code) (hcut : (Try.f23.body.bind (loopFor 0)) = some (b, r)) (hN : NxT a c BM BK BE G n am cm ts (ks.set T (ks.getD T 0 - 2)) (T : Int) i Wt N) :
    b.wp Try.prog (Exit.then N Q0) { tmps := (.slice a ts.length c :: .pointer (some ⟨BM, 0, none⟩) :: .pointer (some ⟨BK, 0, none⟩) :: .pointer (some ⟨BE, 0, none⟩) :: s4 :: s5 :: .int .i64 (i : Int) :: s7 :: s8 :: s9 :: s10 :: s11 :: s12 :: s13 :: s14 :: s15 :: s16 :: s17 :: s18 :: s19 :: s20 :: s21 :: s22 :: s23 :: s24 :: s25 :: s26 :: s27 :: s28 :: s29 :: s30 :: s31 :: s32 :: s33 :: s34 :: s35 :: s36 :: s37 :: s38 :: s39 :: s40 :: s41 :: s42 :: s43 :: s44 :: s45 :: s46 :: []).toArray, defers := [] } Wt := by
  have hcc : (Try.f23.body.bind (loopFor 0)) = some (_, _) := rfl
  rw [hcc] at hcut
  cases hcut
  clear hcc
  obtain ⟨b0, o0, rfl, hb0, l0⟩ := hT.opens ki rfl (by omega)
  have cm0 := l0.ints (j := i) hi
  rw [ht] at cm0
  have i0 : (0 : Int) ≤ (i : Int) := by omega
  have i1 : (i : Int) < (ts.length : Int) := by omega
  have j0 : (0 : Int) ≤ (T : Int) := by omega
  have j1 : (T : Int) < ((n + 1 : Nat) : Int) := by omega
  have j2 : (T : Int) < (n : Int) + 1 := by omega
  have x1 : ¬ (T : Int) < 1 := by omega
  have x2 : ¬ (n : Int) < (T : Int) := by omega
  have x5 : ¬ (T : Int) < e := by omega
  obtain ⟨kv, ekv⟩ : ∃ k, ks.getD T 0 = k := ⟨_, rfl⟩
  obtain ⟨r0, rf0⟩ := own_inti hS.r (j := T) (by rw [hS.l]; omega)
  rw [ekv] at h3 h4 r0 hN
  have x3 : ¬ kv < 3 := by omega
  have hwr : IntKind.i64.wrap ((i : Int) + 1) = (i : Int) + 1 := wrapi (by omega) (by omega)
  have hwk : IntKind.i64.wrap (kv - 2) = kv - 2 := wrapi (by omega) (by omega)
  obtain ⟨m0, mf0, ml⟩ := block1 hS.m
  obtain ⟨k0, kf0, kl⟩ := block1 hS.k
  obtain ⟨e0, ef0, el⟩ := block1 hS.e
  have HN := hide hN; have HS := hide hS
  have hGl : G < Wt.heap.size := (hS.r.lt G rfl).2
  clear hN hS hT l0 ekv h3 h4 h5 hi ht
  go_upto_region 7 with fail
  clear cm0
  go_wp2_with fail
  go_region
  all_goals
    clear r0 rf0 m0 mf0 k0 kf0 e0 ef0
    have HS2 := hide ((unhide HS).setK T (kv - 2)).drew
    have HB2 := hide ((Bt.refl G BE Wt).set (i := T) (Or.inl rfl) (.int .i64 (kv - 2))).drew
    obtain ⟨W2, eW2⟩ : ∃ X, (Wt.setCell ⟨G, T, none⟩ (.int .i64 (kv - 2))).drew = X := ⟨_, rfl⟩
    rw [eW2] at HS2 HB2 ⊢
    clear eW2
    obtain ⟨e0, ef0, el⟩ := block1 (unhide HS2).e
    go_wp2_with fail
    exact unhide HN _ _ _ _ _ _ _ _ _ _ _ _ _ _ _ _ _ _ _ _ _ _ _ _ _ _ _ _ _ _ _ _ _ _ _ _ _ _ _ _ _ _ _ ((unhide HS2).setE T) ((unhide HB2).set (Or.inr rfl) _)

/-- What follows all rounds. -/
def NxU (a : Option Addr) (c BM BK BE G n : Nat) (am : Option Addr) (cm : Nat) (ts ks : List Int) (e : Int) (W : World) (Q0 : Exit → Act → World → Prop) : Prop := ∀ (s4 s5 s7 s8 s9 s10 s11 s12 s13 s14 s15 s16 s17 s18 s19 s20 s21 s22 s23 s24 s25 s26 s27 s28 s29 s30 s31 s32 s33 s34 s35 s36 s37 s38 s39 s40 s41 s42 s43 s44 s45 s46 : Value) (W' : World), St W' BM BK BE G n am cm ks e → Bt G BE W W' → Q0 (.exit 0) { tmps := (.slice a ts.length c :: .pointer (some ⟨BM, 0, none⟩) :: .pointer (some ⟨BK, 0, none⟩) :: .pointer (some ⟨BE, 0, none⟩) :: s4 :: s5 :: .int .i64 (ts.length : Int) :: s7 :: s8 :: s9 :: s10 :: s11 :: s12 :: s13 :: s14 :: s15 :: s16 :: s17 :: s18 :: s19 :: s20 :: s21 :: s22 :: s23 :: s24 :: s25 :: s26 :: s27 :: s28 :: s29 :: s30 :: s31 :: s32 :: s33 :: s34 :: s35 :: s36 :: s37 :: s38 :: s39 :: s40 :: s41 :: s42 :: s43 :: s44 :: s45 :: s46 :: []).toArray, defers := [] } W'

set_option maxRecDepth 100000 in
set_option maxHeartbeats 4000000 in
theorem let_end (a : Option Addr) (c BM BK BE G n : Nat) (am : Option Addr) (cm : Nat) (ts ks : List Int) (e : Int) (W0 Wt : World) (hS : St Wt BM BK BE G n am cm ks e) (hB : Bt G BE W0 Wt)
    {s4 s5 s7 s8 s9 s10 s11 s12 s13 s14 s15 s16 s17 s18 s19 s20 s21 s22 s23 s24 s25 s26 s27 s28 s29 s30 s31 s32 s33 s34 s35 s36 s37 s38 s39 s40 s41 s42 s43 s44 s45 s46 : Value} (N : Act → World → Prop) (Q0 : Exit → Act → World → Prop) (b r : Code) (hcut : (Try.f23.body.bind (loopFor 0)) = some (b, r)) (hE : NxU a c BM BK BE G n am cm ts ks e W0 Q0) :
    b.wp Try.prog (Exit.then N Q0) { tmps := (.slice a ts.length c :: .pointer (some ⟨BM, 0, none⟩) :: .pointer (some ⟨BK, 0, none⟩) :: .pointer (some ⟨BE, 0, none⟩) :: s4 :: s5 :: .int .i64 (ts.length : Int) :: s7 :: s8 :: s9 :: s10 :: s11 :: s12 :: s13 :: s14 :: s15 :: s16 :: s17 :: s18 :: s19 :: s20 :: s21 :: s22 :: s23 :: s24 :: s25 :: s26 :: s27 :: s28 :: s29 :: s30 :: s31 :: s32 :: s33 :: s34 :: s35 :: s36 :: s37 :: s38 :: s39 :: s40 :: s41 :: s42 :: s43 :: s44 :: s45 :: s46 :: []).toArray, defers := [] } Wt := by
  have hcc : (Try.f23.body.bind (loopFor 0)) = some (_, _) := rfl
  rw [hcc] at hcut
  cases hcut
  clear hcc
  have HE := hide hE; have HS := hide hS; have HB := hide hB
  clear hE hS hB
  have i1 : ¬ (ts.length : Int) < (ts.length : Int) := by omega
  go_wp2_with fail
  exact unhide HE _ _ _ _ _ _ _ _ _ _ _ _ _ _ _ _ _ _ _ _ _ _ _ _ _ _ _ _ _ _ _ _ _ _ _ _ _ _ _ _ _ _ _ (unhide HS) (unhide HB)

theorem let_rounds (a : Option Addr) (c BM BK BE G n : Nat) (am : Option Addr) (cm : Nat) (ts KF : List Int) (EF : Int) (W0 : World) (hlen : ts.length ≤ 1000) (hn : n ≤ 200) (hT : IsL KI W0 (.slice a ts.length c) ts) (hne : ∀ k, (Value.slice a ts.length c).ownBlock = some k → k ≠ G ∧ k ≠ BE)
    (Q0 : Exit → Act → World → Prop) (b r : Code) (hcut : (Try.f23.body.bind (loopFor 0)) = some (b, r)) (hE : NxU a c BM BK BE G n am cm ts KF EF W0 Q0) :
    ∀ (k i : Nat), i + k = ts.length → ∀ (s4 s5 s7 s8 s9 s10 s11 s12 s13 s14 s15 s16 s17 s18 s19 s20 s21 s22 s23 s24 s25 s26 s27 s28 s29 s30 s31 s32 s33 s34 s35 s36 s37 s38 s39 s40 s41 s42 s43 s44 s45 s46 : Value) (ks : List Int) (e : Int) (Wt : World), okL n ks e (ts.drop i) → letK ks (ts.drop i) = KF → letE e (ts.drop i) = EF → St Wt BM BK BE G n am cm ks e → Bt G BE W0 Wt →
    Code.rounds Try.prog b Q0 (k + 1) { tmps := (.slice a ts.length c :: .pointer (some ⟨BM, 0, none⟩) :: .pointer (some ⟨BK, 0, none⟩) :: .pointer (some ⟨BE, 0, none⟩) :: s4 :: s5 :: .int .i64 (i : Int) :: s7 :: s8 :: s9 :: s10 :: s11 :: s12 :: s13 :: s14 :: s15 :: s16 :: s17 :: s18 :: s19 :: s20 :: s21 :: s22 :: s23 :: s24 :: s25 :: s26 :: s27 :: s28 :: s29 :: s30 :: s31 :: s32 :: s33 :: s34 :: s35 :: s36 :: s37 :: s38 :: s39 :: s40 :: s41 :: s42 :: s43 :: s44 :: s45 :: s46 :: []).toArray, defers := [] } Wt := by
  intro k
  induction k with
  | zero =>
    intro i hi
    obtain rfl : i = ts.length := by omega
    intros
    rename_i ks e Wt hok hK hL hS hB
    rw [List.drop_length] at hK hL
    have hK2 : ks = KF := hK
    have hL2 : e = EF := hL
    subst hK2 hL2
    exact let_end a c BM BK BE G n am cm ts ks e W0 Wt hS hB _ Q0 b r hcut hE
  | succ k ih =>
    intro i hi
    intros
    rename_i ks e Wt hok hK hL hS hB
    have hlt : i < ts.length := by omega
    have hd : ts.drop i = ts.getD i 0 :: ts.drop (i + 1) := by
      rw [List.drop_eq_getElem_cons hlt]
      simp [hlt]
    rw [hd] at hok hK hL
    obtain ⟨⟨k1, k2, k3, k4, k5⟩, hok2⟩ := hok
    have hK2 : letK (ks.set (ts.getD i 0).toNat (kAt ks (ts.getD i 0) - 2)) (ts.drop (i + 1)) = KF := hK
    have hL2 : letE (ts.getD i 0) (ts.drop (i + 1)) = EF := hL
    obtain ⟨T, eT⟩ : ∃ T : Nat, ts.getD i 0 = (T : Int) := ⟨(ts.getD i 0).toNat, by omega⟩
    rw [eT] at k1 k2 k3 k4 k5 hok2 hK2 hL2
    have e1 : ((T : Int)).toNat = T := rfl
    have e2 : kAt ks (T : Int) = ks.getD T 0 := rfl
    rw [e1, e2] at hok2 hK2
    rw [e2] at k3 k4
    obtain ⟨b0, o0, rfl, hb0, l0⟩ := hT.opens ki rfl (by omega)
    have hT2 : IsL KI Wt (.slice (some ⟨b0, o0, none⟩) ts.length c) ts := (l0.keep (hB.block b0 (hne b0 rfl).1 (hne b0 rfl).2)).isl ki rfl hT.fits
    refine let_round _ c BM BK BE G n am cm ts ks e i T hlt hlen hn eT Wt hS hT2 (by omega) (by omega) k3 k4 k5 _ Q0 b r hcut ?_
    unfold NxT
    intros
    rename_i W' hS' hB'
    exact ih (i + 1) (by omega) _ _ _ _ _ _ _ _ _ _ _ _ _ _ _ _ _ _ _ _ _ _ _ _ _ _ _ _ _ _ _ _ _ _ _ _ _ _ _ _ _ _ _ _ W' hok2 hK2 hL2 hS' (hB.trans hB')

theorem in_b0 {K : Act → World → Prop} {Q : Exit → Act → World → Prop} {n : Nat} {a : Act} {w : World} (h : K a w) : Exit.inBlock n (Exit.then K Q) (.exit n) a w := by
  have e : Exit.inBlock n (Exit.then K Q) (.exit n) a w = K a w := by simp [Exit.inBlock, Exit.then]
  rw [e]
  exact h

set_option maxRecDepth 100000 in
set_option maxHeartbeats 4000000 in
theorem let_tail (BM BK BE G n : Nat) (am : Option Addr) (cm : Nat) (ks : List Int) (e : Int) (W0 Wt : World) (hS : St Wt BM BK BE G n am cm ks e) (hB : Bt G BE W0 Wt)
    {s0 s1 s2 s3 s4 s5 s6 s7 s8 s9 s10 s11 s12 s13 s14 s15 s16 s17 s18 s19 s20 s21 s22 s23 s24 s25 s26 s27 s28 s29 s30 s31 s32 s33 s34 s35 s36 s37 s38 s39 s40 s41 s42 s43 s44 s45 s46 : Value} (b r : Code) (hcut : (Try.f23.body.bind (loopFor 0)) = some (b, r)) :
    r.wp Try.prog (bodyPost Try.prog Try.f23 fun e' w' => e' = .returned (.bool true) ∧ St w' BM BK BE G n am cm ks e ∧ Bt G BE W0 w') { tmps := (s0 :: s1 :: s2 :: s3 :: s4 :: s5 :: s6 :: s7 :: s8 :: s9 :: s10 :: s11 :: s12 :: s13 :: s14 :: s15 :: s16 :: s17 :: s18 :: s19 :: s20 :: s21 :: s22 :: s23 :: s24 :: s25 :: s26 :: s27 :: s28 :: s29 :: s30 :: s31 :: s32 :: s33 :: s34 :: s35 :: s36 :: s37 :: s38 :: s39 :: s40 :: s41 :: s42 :: s43 :: s44 :: s45 :: s46 :: []).toArray, defers := [] } Wt := by
  have hcc : (Try.f23.body.bind (loopFor 0)) = some (_, _) := rfl
  rw [hcc] at hcut
  cases hcut
  clear hcc
  have HS := hide hS; have HB := hide hB
  clear hS hB
  go_wp2_with fail
  go_ret
  exact ⟨rfl, unhide HS, unhide HB⟩

theorem let_loop (a : Option Addr) (c BM BK BE G n : Nat) (am : Option Addr) (cm : Nat) (ts ks : List Int) (e : Int) (w : World) (hlen : ts.length ≤ 1000) (hn : n ≤ 200) (hT : IsL KI w (.slice a ts.length c) ts) (hne : ∀ k, (Value.slice a ts.length c).ownBlock = some k → k ≠ G ∧ k ≠ BE) (hok : okL n ks e ts) (hS : St w BM BK BE G n am cm ks e)
    (K : Act → World → Prop) (b r : Code) (hK : ∀ a w', r.wp Try.prog (bodyPost Try.prog Try.f23 fun e' w' => e' = .returned (.bool true) ∧ St w' BM BK BE G n am cm (letK ks ts) (letE e ts) ∧ Bt G BE w w') a w' → K a w') (hcut : (Try.f23.body.bind (loopFor 0)) = some (b, r)) {s4 s5 s7 s8 s9 s10 s11 s12 s13 s14 s15 s16 s17 s18 s19 s20 s21 s22 s23 s24 s25 s26 s27 s28 s29 s30 s31 s32 s33 s34 s35 s36 s37 s38 s39 s40 s41 s42 s43 s44 s45 s46 : Value} :
    (Code.loop b).wp Try.prog (Exit.inBlock 0 (Exit.then K (bodyPost Try.prog Try.f23 fun e' w' => e' = .returned (.bool true) ∧ St w' BM BK BE G n am cm (letK ks ts) (letE e ts) ∧ Bt G BE w w'))) { tmps := (.slice a ts.length c :: .pointer (some ⟨BM, 0, none⟩) :: .pointer (some ⟨BK, 0, none⟩) :: .pointer (some ⟨BE, 0, none⟩) :: s4 :: s5 :: .int .i64 0 :: s7 :: s8 :: s9 :: s10 :: s11 :: s12 :: s13 :: s14 :: s15 :: s16 :: s17 :: s18 :: s19 :: s20 :: s21 :: s22 :: s23 :: s24 :: s25 :: s26 :: s27 :: s28 :: s29 :: s30 :: s31 :: s32 :: s33 :: s34 :: s35 :: s36 :: s37 :: s38 :: s39 :: s40 :: s41 :: s42 :: s43 :: s44 :: s45 :: s46 :: []).toArray, defers := [] } w := by
  refine wp_loop_rounds (ts.length + 1) ?_
  refine let_rounds a c BM BK BE G n am cm ts (letK ks ts) (letE e ts) w hlen hn hT hne _ b r hcut ?_ ts.length 0 (by omega) _ _ _ _ _ _ _ _ _ _ _ _ _ _ _ _ _ _ _ _ _ _ _ _ _ _ _ _ _ _ _ _ _ _ _ _ _ _ _ _ _ _ ks e w hok rfl rfl hS (Bt.refl _ _ _)
  unfold NxU
  intros
  rename_i W' hS' hB'
  exact in_b0 (hK _ _ (let_tail BM BK BE G n am cm (letK ks ts) (letE e ts) w W' hS' hB' b r hcut))

set_option maxRecDepth 100000 in
set_option maxHeartbeats 4000000 in
theorem let_any (w : World) (a : Option Addr) (c BM BK BE G n : Nat) (am : Option Addr) (cm : Nat) (ts ks : List Int) (e : Int) (hlen : ts.length ≤ 1000) (hn : n ≤ 200) (hT : IsL KI w (.slice a ts.length c) ts) (hne : ∀ k, (Value.slice a ts.length c).ownBlock = some k → k ≠ G ∧ k ≠ BE) (hok : okL n ks e ts) (hS : St w BM BK BE G n am cm ks e) :
    Calls Try.prog 23 #[.slice a ts.length c, .pointer (some ⟨BM, 0, none⟩), .pointer (some ⟨BK, 0, none⟩), .pointer (some ⟨BE, 0, none⟩)] w fun e' w' => e' = .returned (.bool true) ∧ St w' BM BK BE G n am cm (letK ks ts) (letE e ts) ∧ Bt G BE w w' := by
  have HT := hide hT; have HNE := hide hne; have HOK := hide hok; have HS := hide hS
  clear hT hne hok hS
  go_enter Try.func23, Try.ntmps23
  go_wp2_with fail
  exact let_loop a c BM BK BE G n am cm ts ks e w hlen hn (unhide HT) (unhide HNE) (unhide HOK) (unhide HS) _ _ _ (by assumption) (by kernel_rfl)

end Go.Proofs.Ytdpcbmekplcllaa
