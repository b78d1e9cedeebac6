/-
  order.clocksOf.
-/
import Derived.Test.YtbnmeeabpjmcoaaS
import Derived.Laws.MakeOwn
namespace Go.Proofs.Ytbnmeeabpjmcoaa
open Go.RowKit

/-- A row of clocks, of which the first are told. -/
structure CkRow (w : World) (G n : Nat) (f : Nat → Nat → Int) (j : Nat) : Prop where
  there : w.there G 0 (n * 64)
  rng : ∀ i, i < j → w.rangeAt G (i * 64) (ckL (f i))
theorem range_keep {w w' : World} {G o : Nat} {vs : List Value} (h : w.rangeAt G o vs) (hb : w'.heap[G]? = w.heap[G]?) : w'.rangeAt G o vs := fun j v hv => cell_of (h j v hv) hb
theorem there_keep {w w' : World} {G o n : Nat} (h : w.there G o n) (hb : w'.heap[G]? = w.heap[G]?) : w'.there G o n := fun j hj => by
  obtain ⟨h1, h2⟩ := h j hj
  refine ⟨?_, froz_of h2 hb⟩
  rw [World.cell?_of_block (w := w) (a := ⟨G, o + j, none⟩) hb]
  exact h1
theorem CkRow.keep {w w' : World} {G n j : Nat} {f : Nat → Nat → Int} (h : CkRow w G n f j) (hb : w'.heap[G]? = w.heap[G]?) : CkRow w' G n f j := ⟨there_keep h.there hb, fun i hi => range_keep (h.rng i hi) hb⟩
theorem CkRow.at {w : World} {G n j : Nat} {f : Nat → Nat → Int} (h : CkRow w G n f j) {i : Nat} (hi : i < n) : w.there G (i * 64) 64 := fun k hk => by
  have := h.there (i * 64 + k) (by have : i * 64 + 64 ≤ n * 64 := by omega
                                   omega)
  rwa [Nat.zero_add] at this
theorem CkRow.put {w : World} {G n j : Nat} {f : Nat → Nat → Int} (h : CkRow w G n f j) (hj : j < n) : CkRow (w.setCells G (j * 64) (ckL (f j))) G n f (j + 1) := by
  refine ⟨World.there_setCells h.there _ _ _, fun i hi => ?_⟩
  by_cases e : i = j
  · subst e
    exact World.rangeAt_setCells_same w G (i * 64) _ (by rw [ckL_len]; exact h.at hj)
  · exact World.rangeAt_setCells_apart (h.rng i (by omega)) _ _ _ (Or.inr (Or.inl (by rw [ckL_len]; omega)))

theorem short_keep (hs : List Int) (M : PastM) (e : Ev) (c : Nat → Int) (n : Nat) (h : ∀ k, (M.pipes k).sends.length ≤ n ∧ (M.pipes k).gets.length ≤ (M.pipes k).sends.length) (k : Int) : ((keepM hs M e c).pipes k).sends.length ≤ n + 1 ∧ ((keepM hs M e c).pipes k).gets.length ≤ ((keepM hs M e c).pipes k).sends.length := by
  have h0 : ∀ k, (M.pipes k).sends.length ≤ n + 1 ∧ (M.pipes k).gets.length ≤ (M.pipes k).sends.length := fun k => ⟨Nat.le_succ_of_le (h k).1, (h k).2⟩
  have hg : (M.pipes e.obj).gets.length ≠ (M.pipes e.obj).sends.length → ∀ k, ((updI M.pipes e.obj (getM (M.pipes e.obj) c)) k).sends.length ≤ n + 1 ∧ ((updI M.pipes e.obj (getM (M.pipes e.obj) c)) k).gets.length ≤ ((updI M.pipes e.obj (getM (M.pipes e.obj) c)) k).sends.length := fun hne => upd_all (R := fun p : PipeM => p.sends.length ≤ n + 1 ∧ p.gets.length ≤ p.sends.length) h0 (by
    have := h0 e.obj
    refine ⟨this.1, ?_⟩
    show ((M.pipes e.obj).gets ++ [c]).length ≤ (M.pipes e.obj).sends.length
    rw [List.length_append, List.length_singleton]
    omega)
  unfold keepM
  split
  · exact h0 k
  · split
    · refine upd_all (R := fun p : PipeM => p.sends.length ≤ n + 1 ∧ p.gets.length ≤ p.sends.length) h0 ?_ k
      have := h e.obj
      show ((M.pipes e.obj).sends ++ [(e.task, c)]).length ≤ n + 1 ∧ (M.pipes e.obj).gets.length ≤ ((M.pipes e.obj).sends ++ [(e.task, c)]).length
      rw [List.length_append, List.length_singleton]
      omega
    · split
      · split
        · exact h0 k
        · next hne =>
          split
          · exact hg hne k
          · exact hg hne k
      · split
        · exact upd_all (R := fun p : PipeM => p.sends.length ≤ n + 1 ∧ p.gets.length ≤ p.sends.length) (v := { M.pipes e.obj with shut := c }) h0 (h0 e.obj) k
        · split
          · exact h0 k
          · split
            · exact h0 k
            · exact h0 k
theorem short_run (hs : List Int) (l : List Ev) : ∀ n, n ≤ l.length → ∀ k, ((runM hs (l.take n)).pipes k).sends.length ≤ n ∧ ((runM hs (l.take n)).pipes k).gets.length ≤ ((runM hs (l.take n)).pipes k).sends.length := by
  intro n
  induction n with
  | zero =>
    intro _ k
    rw [List.take_zero]
    exact ⟨Nat.le_refl _, Nat.le_refl _⟩
  | succ n ih =>
    intro hn k
    rw [runM_succ hs l (by omega)]
    exact short_keep hs (setTM (runM hs (l.take n)) (l.getD n ev0).task (nowM hs (runM hs (l.take n)) (l.getD n ev0))) (l.getD n ev0) _ n (fun k => ih (by omega) k) k
theorem GoodT.short {hs : List Int} {l : List Ev} (h : GoodT hs l) {n : Nat} (hn : n ≤ l.length) : Short (runM hs (l.take n)) := fun k => by
  have h1 := short_run hs l n hn k
  have h2 := h.n
  exact ⟨by omega, h1.2⟩
/-- What is asked ahead of add, at the event j. -/
theorem GoodT.room {hs : List Int} {l : List Ev} (h : GoodT hs l) {j : Nat} (hj : j < l.length) (a : Nat) : 0 ≤ joinC ((runM hs (l.take j)).tasks (l.getD j ev0).task) (aheadM hs (runM hs (l.take j)) (l.getD j ev0)) a ∧ joinC ((runM hs (l.take j)).tasks (l.getD j ev0).task) (aheadM hs (runM hs (l.take j)) (l.getD j ev0)) a ≤ 1000000 := by
  have hU := all_cnt hs l j (by omega)
  have h1 := hU.t (l.getD j ev0).task a
  have h2 := hU.ahead (Q := fun c => ∀ a, 0 ≤ c a ∧ c a ≤ cnt l j a) (fun a => ⟨Int.le_refl _, cnt_nn _ _ _⟩) hs (l.getD j ev0) a
  have h3 := cnt_le l j a
  have h4 := h.n
  unfold joinC
  omega
/-- add, at the event j of a trace. -/
theorem add_at (w : World) (hv : Value) (hs : List Int) (l : List Ev) (d : Dat) (j : Nat) (tk op ob vl : Int) (P : Nat) (hP : d.P = P) (hg : GoodT hs l) (hj : j < l.length) (he : l.getD j ev0 = ⟨tk, op, ob, vl⟩) (h : PastAt hv w d (runM hs (l.take j))) (hH : Holds hv w d hs) :
    Calls Try.prog 44 #[.pointer (some ⟨P, 0, none⟩), .agg #[.int .i64 tk, .int .i64 op, .int .i64 ob, .int .i64 vl]] w fun r w' => ∃ d', r = .returned (ckV (ckAt hs l j)) ∧ PastAt hv w' d' (runM hs (l.take (j + 1))) ∧ Stp d d' w w' := by
  subst hP
  have hok := hg.ev hj
  have hr := hg.room hj
  rw [he] at hok hr
  rw [runM_succ hs l hj, he]
  have h1 := hok.t1
  have h2 := hok.t2
  dsimp only at h1 h2
  refine add_any w hv hs d _ tk op ob vl h hH hg.h (hg.short (by omega)) hok _ (tk - 1).toNat (by omega) (by omega) rfl (hr _).1 (hr _).2 _ ?_
  unfold ckAt
  rw [he]
/-- What holds in clocksOf's loop. -/
structure CkSt (w W : World) (hv : Value) (hs : List Int) (l : List Ev) (n0 G P : Nat) (d : Dat) (j : Nat) : Prop where
  p : PastAt hv W d (runM hs (l.take j))
  P : d.P = P
  lg : d.lab G = (0, 0)
  row : CkRow W G n0 (ckAt hs l) j
  be : Below w.heap.size w W
  lo : ∀ j, j < w.heap.size → d.lab j = (0, 0)
  g0 : w.heap.size ≤ G
  g1 : G < W.heap.size
theorem CkSt.below {w W W' : World} {hv : Value} {hs : List Int} {l : List Ev} {n0 G P : Nat} {d : Dat} {j : Nat} (h : CkSt w W hv hs l n0 G P d j) (hb : Below W.heap.size W W') : CkSt w W' hv hs l n0 G P d j :=
  ⟨h.p.below hb, h.P, h.lg, h.row.keep (hb.block G h.g1), Below.next h.be hb (Nat.le_refl _), h.lo, h.g0, Nat.lt_of_lt_of_le h.g1 hb.size⟩
theorem CkSt.step {w W W' : World} {hv : Value} {hs : List Int} {l : List Ev} {n0 G P : Nat} {d d' : Dat} {j : Nat} (h : CkSt w W hv hs l n0 G P d j) (hp : PastAt hv W' d' (runM hs (l.take (j + 1)))) (hS : Stp d d' W W') (hj : j < n0) : W'.there G (j * 64) 64 ∧ CkSt w (W'.setCells G (j * 64) (ckL (ckAt hs l j))) hv hs l n0 G P d' (j + 1) := by
  have hr := h.row.keep (hS.keep G h.g1 h.lg)
  have hlg : d'.lab G = (0, 0) := (hS.lab G h.g1).trans h.lg
  have hbe : Below w.heap.size w W' := h.be.trans (hS.below (Nat.le_trans (Nat.le_of_lt_succ (Nat.lt_succ_of_le h.be.size)) (Nat.le_refl _)) h.lo)
  exact ⟨hr.at hj, hp.aside _ hlg, hS.P.trans h.P, hlg, hr.put hj, below_setCells h.g0 _ _ _ hbe, fun k hk => (hS.lab k (Nat.lt_of_lt_of_le hk h.be.size)).trans (h.lo k hk), h.g0, by rw [setCells_size]; exact Nat.lt_of_lt_of_le h.g1 hS.size⟩
theorem make_clocks (_w : World) (n : Nat) (hn : n ≤ 2000) : ∃ A : Array Value, A.size = n * 64 ∧ ∀ w : World, (Instr.makeSlice 62 (.int .i64 (n : Int)) (.int .i64 (n : Int))).run Try.prog w = .ok (.slice (some ⟨w.heap.size, 0, none⟩) n n) (w.alloc (.cells A 65)) := by
  obtain ⟨i0, z, hi, hz, h1, h2, h3⟩ := kg.info
  refine ⟨madeCells z.cells (n * i0.size), by rw [size_madeCells, h1]; rfl, fun w => ?_⟩
  have := run_makeSlice (P := Try.prog) w 62 65 i0 z Try.underlying62 hi hz .i64 .i64 (n : Int) (n : Int) (by omega) (by omega) (by rw [h1]; show (n : Int).toNat * 64 ≤ _; omega) (by rw [h2]; show ((512 : Nat) : Int) * (n : Int) ≤ _; omega) (by omega)
  simpa using this

set_option maxRecDepth 100000 in
set_option maxHeartbeats 2000000 in
theorem clocksOf_any (w : World) (a0 : Option Addr) (n0 c0 : Nat) (a1 : Option Addr) (n1 c1 : Nat) (l : List Ev) (hs : List Int) (hl : IsL KE w (.slice a0 n0 c0) l) (hh : IsL KI w (.slice a1 n1 c1) hs) (hg : GoodT hs l) :
    Calls Try.prog 34 #[.slice a0 n0 c0, .slice a1 n1 c1] w fun e w' => ∃ G, e = .returned (.slice (some ⟨G, 0, none⟩) n0 n0) ∧ CkRow w' G n0 (ckAt hs l) n0 ∧ w.heap.size ≤ G ∧ G < w'.heap.size ∧ Below w.heap.size w w' := by
  have e0 := hl.len
  have hn := hg.n
  obtain ⟨A, hA, hmk⟩ := make_clocks w n0 (by omega)
  have HAL : Hid (∀ W : World, (W.alloc (.cells A 65)).there W.heap.size 0 (n0 * 64)) := fun W => there_block (new_block W _) (by omega)
  have hHo : ∀ (W : World) (d : Dat), Below w.heap.size w W → (∀ j, j < w.heap.size → d.lab j = (0, 0)) → Holds (.slice a1 n1 c1) W d hs := fun W d hB hL i hi => by
    have e1 := hh.len
    obtain ⟨b, off, rfl, hb, li⟩ := hh.opens ki e1 (by omega)
    exact ⟨b, off, c1, by rw [e1], Nat.lt_of_lt_of_le hb hB.size, hL b hb, (li.below hB hb).ints hi⟩
  have HHO := hide hHo; have HL := hide hl; have HG := hide hg; have HN := hide e0
  clear hHo hl hh hg e0 hA
  go_enter Try.func34, Try.ntmps34
  go_upto_region 1 with fail
  go_region_held3 (fun W' => True)
    (exact trivial)
    (first
      | (go_at_call 43; (with_reducible refine Calls.mono (newPast_any _ a1 n1 c1) ?_); rintro e w1 ⟨d, rfl, h1, h2, h3⟩; have HP1 := hide h1; have HB1 := hide h2; have HL1 := hide h3; clear h1 h2 h3))
  · have hst : CkSt w (w1.alloc (.cells A 65)) (.slice a1 n1 c1) hs l n0 w1.heap.size d.P d 0 := ⟨(unhide HP1).below ((Below.refl _ _).alloc (Nat.le_refl _) _), rfl, (unhide HP1).hi _ (Nat.le_refl _), ⟨unhide HAL w1, fun i hi => absurd hi (Nat.not_lt_zero _)⟩, (Below.refl w.heap.size w).drew.trans ((unhide HB1).alloc (unhide HB1).size _), fun j hj => unhide HL1 j hj, (unhide HB1).size, by simp⟩
    have HST := hide hst
    clear hst
    obtain ⟨W, eW⟩ : ∃ X, w1.alloc (.cells A 65) = X := ⟨_, rfl⟩
    obtain ⟨G, eG⟩ : ∃ X, w1.heap.size = X := ⟨_, rfl⟩
    obtain ⟨P0, eP⟩ : ∃ X, d.P = X := ⟨_, rfl⟩
    rw [eW, eG, eP] at HST
    rw [eW, eG, eP]
    clear eW eG eP HP1 HB1 HL1 hmk
    go_upto_region 3 with fail
    go_loopw [16] (fun i W => ∃ (j : Nat) (d : Dat), j ≤ n0 ∧ i = .int .i64 j ∧ Hid (CkSt w W (.slice a1 n1 c1) hs l n0 G P0 d j)) (fun i _ => n0 - (intOf i).toNat)
    case atStart => exact ⟨0, d, Nat.zero_le _, rfl, HST⟩
    case round =>
      obtain ⟨j, dj, hj, rfl, HSj⟩ := hrel
      clear HST
      by_cases hlt : j < n0
      · obtain ⟨b, off, rfl, hbl, hli⟩ := (unhide HL).opens ke (unhide HN) (by omega)
        have hlt2 : j < l.length := by rw [unhide HN]; exact hlt
        obtain ⟨⟨tk, op, ob, vl⟩, ex⟩ : ∃ X, l.getD j ev0 = X := ⟨_, rfl⟩
        obtain ⟨k0, k1, k2, k3⟩ := (hli.below (unhide HSj).be hbl).ev hlt2 ex
        have i0 : (0 : Int) ≤ (j : Int) := by omega
        have i4 : (j : Int) < (n0 : Int) := by omega
        have hw1 : IntKind.i64.wrap ((j : Int) + 1) = (j : Int) + 1 := wrapi (by omega) (by omega)
        have HEX := hide ex; have HLT2 := hide hlt2
        clear ex hlt2 hli
        go_upto_region 5 with fail
        clear k0 k1 k2 k3
        have HS3 := hide ((unhide HSj).below ((Below.refl _ _).alloc (Nat.le_refl _) (.cells #[.int .i64 tk, .int .i64 op, .int .i64 ob, .int .i64 vl] 41))); have HZ3 := hide (new_block wr (.cells #[.int .i64 tk, .int .i64 op, .int .i64 ob, .int .i64 vl] 41))
        obtain ⟨Z, eZ⟩ : ∃ X, wr.heap.size = X := ⟨_, rfl⟩
        obtain ⟨W3, e3⟩ : ∃ X, wr.alloc (.cells #[.int .i64 tk, .int .i64 op, .int .i64 ob, .int .i64 vl] 41) = X := ⟨_, rfl⟩
        rw [eZ, e3] at HZ3; rw [e3] at HS3; rw [eZ, e3]
        clear eZ e3 HSj
        have HCA := hide (add_at W3 (.slice a1 n1 c1) hs l dj j tk op ob vl P0 (unhide HS3).P (unhide HG) (unhide HLT2) (unhide HEX) (unhide HS3).p (unhide HHO W3 dj (unhide HS3).be (unhide HS3).lo))
        obtain ⟨cj, ecj⟩ : ∃ X, ckAt hs l j = X := ⟨_, rfl⟩
        rw [ecj] at HCA
        obtain ⟨⟨z0, z1, z2, z3⟩, -, zl⟩ := block4 (unhide HZ3)
        have HLT := hide hlt
        have HCJ := hide ecj
        clear ecj
        go_wp2_with (first
          | (go_at_call 44; refine (unhide HCA).mono ?_; rintro e w4 ⟨d4, rfl, h4, h5⟩; obtain ⟨ht6, hs6⟩ := (unhide HS3).step h4 h5 (unhide HLT); rw [unhide HCJ] at hs6; have HT6 := hide ht6; have HS6 := hide hs6; clear h4 h5 ht6 hs6 z0 z1 z2 z3 zl HS3 HZ3 HCA)
          | (refine wpList_store_mid rfl _ _ _ rfl _ _ (ckL cj).toArray rfl rfl (by have h0 := unhide HT6; simpa [ckL_len] using h0) (by simpa [ckL_len] using Try.size65) (ckL_all _) ?_))
        go_roundw
        case rel => exact ⟨j + 1, d4, by omega, by go_num, HS6⟩
        case measure => simp [intOf]; omega
      · obtain rfl : j = n0 := by omega
        have i4 : ¬ (j : Int) < (j : Int) := by omega
        clear hlt hj
        go_wp2_with fail
        go_ret
        exact ⟨G, rfl, (unhide HSj).row, (unhide HSj).g0, (unhide HSj).g1, (unhide HSj).be⟩
  · have hst : CkSt w w1 (.slice a1 n1 c1) hs l n0 w.heap.size d.P d 0 := ⟨unhide HP1, rfl, unhide HL1 _ (by simp), ⟨there_keep (unhide HAL w.drew) ((unhide HB1).block _ (by simp)), fun i hi => absurd hi (Nat.not_lt_zero _)⟩, ((Below.refl w.heap.size w).drew.alloc (Nat.le_refl _) _).trans ((unhide HB1).mono (by simp)), fun j hj => unhide HL1 j (by simp; omega), Nat.le_refl _, Nat.lt_of_lt_of_le (by simp) (unhide HB1).size⟩
    have HST := hide hst
    clear hst
    obtain ⟨P0, eP⟩ : ∃ X, d.P = X := ⟨_, rfl⟩
    rw [eP] at HST
    rw [eP]
    clear eP HP1 HB1 HL1 hmk
    go_upto_region 3 with fail
    go_loopw [16] (fun i W => ∃ (j : Nat) (d : Dat), j ≤ n0 ∧ i = .int .i64 j ∧ Hid (CkSt w W (.slice a1 n1 c1) hs l n0 w.heap.size P0 d j)) (fun i _ => n0 - (intOf i).toNat)
    case atStart => exact ⟨0, d, Nat.zero_le _, rfl, HST⟩
    case round =>
      obtain ⟨j, dj, hj, rfl, HSj⟩ := hrel
      clear HST
      by_cases hlt : j < n0
      · obtain ⟨b, off, rfl, hbl, hli⟩ := (unhide HL).opens ke (unhide HN) (by omega)
        have hlt2 : j < l.length := by rw [unhide HN]; exact hlt
        obtain ⟨⟨tk, op, ob, vl⟩, ex⟩ : ∃ X, l.getD j ev0 = X := ⟨_, rfl⟩
        obtain ⟨k0, k1, k2, k3⟩ := (hli.below (unhide HSj).be hbl).ev hlt2 ex
        have i0 : (0 : Int) ≤ (j : Int) := by omega
        have i4 : (j : Int) < (n0 : Int) := by omega
        have hw1 : IntKind.i64.wrap ((j : Int) + 1) = (j : Int) + 1 := wrapi (by omega) (by omega)
        have HEX := hide ex; have HLT2 := hide hlt2
        clear ex hlt2 hli
        go_upto_region 5 with fail
        clear k0 k1 k2 k3
        have HS3 := hide ((unhide HSj).below ((Below.refl _ _).alloc (Nat.le_refl _) (.cells #[.int .i64 tk, .int .i64 op, .int .i64 ob, .int .i64 vl] 41))); have HZ3 := hide (new_block wr (.cells #[.int .i64 tk, .int .i64 op, .int .i64 ob, .int .i64 vl] 41))
        obtain ⟨Z, eZ⟩ : ∃ X, wr.heap.size = X := ⟨_, rfl⟩
        obtain ⟨W3, e3⟩ : ∃ X, wr.alloc (.cells #[.int .i64 tk, .int .i64 op, .int .i64 ob, .int .i64 vl] 41) = X := ⟨_, rfl⟩
        rw [eZ, e3] at HZ3; rw [e3] at HS3; rw [eZ, e3]
        clear eZ e3 HSj
        have HCA := hide (add_at W3 (.slice a1 n1 c1) hs l dj j tk op ob vl P0 (unhide HS3).P (unhide HG) (unhide HLT2) (unhide HEX) (unhide HS3).p (unhide HHO W3 dj (unhide HS3).be (unhide HS3).lo))
        obtain ⟨cj, ecj⟩ : ∃ X, ckAt hs l j = X := ⟨_, rfl⟩
        rw [ecj] at HCA
        obtain ⟨⟨z0, z1, z2, z3⟩, -, zl⟩ := block4 (unhide HZ3)
        have HLT := hide hlt
        have HCJ := hide ecj
        clear ecj
        go_wp2_with (first
          | (go_at_call 44; refine (unhide HCA).mono ?_; rintro e w4 ⟨d4, rfl, h4, h5⟩; obtain ⟨ht6, hs6⟩ := (unhide HS3).step h4 h5 (unhide HLT); rw [unhide HCJ] at hs6; have HT6 := hide ht6; have HS6 := hide hs6; clear h4 h5 ht6 hs6 z0 z1 z2 z3 zl HS3 HZ3 HCA)
          | (refine wpList_store_mid rfl _ _ _ rfl _ _ (ckL cj).toArray rfl rfl (by have h0 := unhide HT6; simpa [ckL_len] using h0) (by simpa [ckL_len] using Try.size65) (ckL_all _) ?_))
        go_roundw
        case rel => exact ⟨j + 1, d4, by omega, by go_num, HS6⟩
        case measure => simp [intOf]; omega
      · obtain rfl : j = n0 := by omega
        have i4 : ¬ (j : Int) < (j : Int) := by omega
        clear hlt hj
        go_wp2_with fail
        go_ret
        exact ⟨w.heap.size, rfl, (unhide HSj).row, (unhide HSj).g0, (unhide HSj).g1, (unhide HSj).be⟩
end Go.Proofs.Ytbnmeeabpjmcoaa
