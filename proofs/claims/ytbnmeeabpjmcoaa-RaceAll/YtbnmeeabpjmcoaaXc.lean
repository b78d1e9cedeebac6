/-
  What race goes through: accesses, in memory.
-/
import Derived.Test.YtbnmeeabpjmcoaaXb
namespace Go.Proofs.Ytbnmeeabpjmcoaa
open Go.RowKit

/-- Accesses. -/
def KA : Kind Acc := ⟨fun a => [.int .i64 (a.pl : Int), .int .i64 a.task, .bool a.store], 3, 88, 89, 24, acc0⟩
theorem Try.infoKA : (Try.prog.info? 88).map (fun i => (i.zero.map (fun z => z.cells.size), i.size, i.bytes)) = some (some 3, 3, 24) := by kernel_rfl
theorem ka : KA.Ok := by
  refine ⟨fun c => rfl, fun c u hu => ?_, by decide, by decide, Try.underlying89, info_of Try.infoKA⟩
  simp [KA] at hu
  rcases hu with rfl | rfl | rfl <;> rfl
theorem Lies.acc {w : World} {b off : Nat} {l : List Acc} (h : Lies KA w b off l) {j : Nat} (hj : j < l.length) {p : Nat} {t : Int} {s : Bool} (he : l.getD j acc0 = ⟨p, t, s⟩) : w.cell? ⟨b, off + j * 3, none⟩ = some (.int .i64 (p : Int)) ∧ w.cell? ⟨b, off + j * 3 + 1, none⟩ = some (.int .i64 t) ∧ w.cell? ⟨b, off + j * 3 + 2, none⟩ = some (.bool s) := by
  have e : l.getD j KA.d = ⟨p, t, s⟩ := he
  refine ⟨h j 0 _ hj (by rw [e]; rfl), h j 1 _ hj (by rw [e]; rfl), h j 2 _ hj (by rw [e]; rfl)⟩

set_option maxRecDepth 100000 in
set_option maxHeartbeats 1000000 in
theorem isAccess_any (w : World) (op : Int) : Calls Try.prog 47 #[.int .i64 op] w fun e w' => e = .returned (.bool (op == 12 || op == 13)) ∧ w' = w := by
  by_cases c1 : op = 12
  · subst c1
    go_enter Try.func47, Try.ntmps47
    go_wp2_with fail
    go_ret
    exact ⟨rfl, rfl⟩
  · have x1 : (op == 12) = false := by simpa using c1
    have HR : Hid ((op == 12 || op == 13) = (op == 13)) := by show _ = _; simp [x1]
    go_enter Try.func47, Try.ntmps47
    go_wp2_with fail
    go_ret
    exact ⟨by rw [unhide HR]; rfl, rfl⟩

/-- What a race.seen is, behind the first n events. -/
structure SeenAt (lo : Nat) (w : World) (S B : Nat) (cv : Value) (ks : List Int) (sv : Int → Value) (l : List Ev) (n : Nat) : Prop where
  blk : w.heap[S]? = some (.cells #[cv, .map (some B)] 86 (0, 0))
  map : w.heap[B]? = some (.map (msEnts ks sv) ks.length)
  nd : ks.Nodup
  zero : ∀ c, c ∉ ks → sv c = .slice none 0 0
  rows : ∀ c, Own KA lo w (sv c) (accL l n c)
  apart : ∀ c c', c ≠ c' → Apart (sv c) (sv c')
  lb : lo ≤ B
theorem SeenAt.below {lo : Nat} {w w' : World} {S B : Nat} {cv : Value} {ks : List Int} {sv : Int → Value} {l : List Ev} {n : Nat} (h : SeenAt lo w S B cv ks sv l n) (hb : Below w.heap.size w w') : SeenAt lo w' S B cv ks sv l n :=
  ⟨keep_below h.blk hb, keep_below h.map hb, h.nd, h.zero, fun c => (h.rows c).below hb, h.apart, h.lb⟩
theorem SeenAt.skip {lo : Nat} {w : World} {S B : Nat} {cv : Value} {ks : List Int} {sv : Int → Value} {l : List Ev} {n : Nat} (h : SeenAt lo w S B cv ks sv l n) (ha : isAcc (l.getD n ev0) = false) : SeenAt lo w S B cv ks sv l (n + 1) :=
  ⟨h.blk, h.map, h.nd, h.zero, fun c => by rw [accL_no l n c (by unfold onCell; rw [ha, Bool.false_and])]; exact h.rows c, h.apart, h.lb⟩

set_option maxRecDepth 100000 in
set_option maxHeartbeats 1000000 in
theorem newSeen_any (w : World) (a : Option Addr) (n c : Nat) (l : List Ev) : Calls Try.prog 37 #[.slice a n c] w fun e w' => ∃ S B, e = .returned (.pointer (some ⟨S, 0, none⟩)) ∧ SeenAt w.heap.size w' S B (.slice a n c) [] (fun _ => .slice none 0 0) l 0 ∧ w.heap.size ≤ S ∧ Below w.heap.size w w' := by
  have hmm := @run_makeMap Try.prog
  go_enter Try.func37, Try.ntmps37
  go_wp2_with fail
  go_ret
  obtain ⟨W, e, hb, h0, h1⟩ := two_new w (.map #[] 0) (.cells #[.slice a n c, .map (some w.heap.size)] 86 (0, 0))
  refine ⟨w.heap.size + 1, w.heap.size, rfl, ?_⟩
  show SeenAt _ ((w.alloc (.map #[] 0)).alloc (.cells #[.slice a n c, .map (some w.heap.size)] 86 (0, 0))) _ _ _ _ _ _ _ ∧ _ ∧ Below _ _ ((w.alloc (.map #[] 0)).alloc (.cells #[.slice a n c, .map (some w.heap.size)] 86 (0, 0)))
  rw [e]
  exact ⟨⟨h1, h0, List.nodup_nil, fun _ _ => rfl, fun c => own_nil _ _, fun c c' _ => (fun k hk => by simp [Value.ownBlock] at hk), Nat.le_refl _⟩, Nat.le_succ _, hb⟩

set_option maxRecDepth 100000 in
set_option maxHeartbeats 4000000 in
theorem isRace_any (w : World) (S B lo lo' G n m : Nat) (ks : List Int) (sv : Int → Value) (l : List Ev) (hs : List Int) (k : Nat) (hS : SeenAt lo w S B (.slice (some ⟨G, 0, none⟩) n n) ks sv l k) (hR : Rows2 lo' w G n (rowL hs l m) m n) (p q : Nat) (t u : Int) (s r : Bool) (hp : p < n) (hq : q < n) (ht : 1 ≤ t) (htm : t ≤ (m : Int)) (hm : m ≤ 64) (_hn : n ≤ 2000) :
    Calls Try.prog 48 #[.pointer (some ⟨S, 0, none⟩), .agg #[.int .i64 (p : Int), .int .i64 t, .bool s], .agg #[.int .i64 (q : Int), .int .i64 u, .bool r]] w fun e w' => e = .returned (.bool (raceA hs l ⟨p, t, s⟩ ⟨q, u, r⟩)) ∧ Below w.heap.size w w' := by
  obtain ⟨W0, e0, hB, k0, k1⟩ := two_new w (.cells #[.int .i64 (p : Int), .int .i64 t, .bool s] 88 (0, 0)) (.cells #[.int .i64 (q : Int), .int .i64 u, .bool r] 88 (0, 0))
  have HX := hide hB; have HE := hide e0
  have HSB := hide (keep_below hS.blk hB)
  have HR := hide (hR.below hB)
  obtain ⟨⟨a0, a1, a2⟩, ⟨af0, af1, af2⟩, al⟩ := block3 k0
  obtain ⟨⟨b0, b1, b2⟩, ⟨bf0, bf1, bf2⟩, bl⟩ := block3 k1
  clear hB e0 k0 k1 hS hR
  by_cases htu : t = u
  · subst htu
    have HQ : Hid (raceA hs l ⟨p, t, s⟩ ⟨q, t, r⟩ = false) := by show _ = _; simp [raceA]
    have x1 : (t == t) = true := by simp
    go_enter Try.func48, Try.ntmps48
    go_upto_region 1 with fail
    rw [unhide HE]
    clear HE
    go_wp2_with fail
    go_ret
    exact ⟨by rw [unhide HQ]; rfl, unhide HX⟩
  have x1 : (t == u) = false := by simpa using htu
  clear htu
  by_cases hsr : s = false ∧ r = false
  · obtain ⟨rfl, rfl⟩ := hsr
    have HQ : Hid (raceA hs l ⟨p, t, false⟩ ⟨q, u, false⟩ = false) := by show _ = _; simp [raceA]
    go_enter Try.func48, Try.ntmps48
    go_upto_region 1 with fail
    rw [unhide HE]
    clear HE
    go_wp2_with fail
    go_ret
    exact ⟨by rw [unhide HQ]; rfl, unhide HX⟩
  obtain ⟨pl, hpl⟩ : ∃ pl : Nat, t = (pl : Int) + 1 := ⟨(t - 1).toNat, by omega⟩
  have hpm : pl < m := by omega
  have wt : IntKind.i64.wrap (t - 1) = (pl : Int) := by
    rw [hpl, show (pl : Int) + 1 - 1 = (pl : Int) by omega]
    exact wrapi (by omega) (by omega)
  obtain ⟨xp, exp⟩ : ∃ X, ckAt hs l p pl = X := ⟨_, rfl⟩
  obtain ⟨xq, exq⟩ : ∃ X, ckAt hs l q pl = X := ⟨_, rfl⟩
  have HQ : Hid (raceA hs l ⟨p, t, s⟩ ⟨q, u, r⟩ = decide (xq < xp)) := by
    show _ = _
    have e1 : (s || r) = true := by cases s <;> cases r <;> simp_all
    unfold raceA
    dsimp only
    rw [x1, e1, show (t - 1).toNat = pl by omega, exp, exq]
    rfl
  obtain ⟨bi, ci, h1, -, -, -, h4⟩ := (unhide HR).row p hp
  obtain ⟨bj, cj, k1, -, -, -, k4⟩ := (unhide HR).row q hq
  obtain ⟨_, _, e5, _, l5⟩ := h4.opens ki h4.len (by omega)
  cases e5
  obtain ⟨_, _, e6, _, l6⟩ := k4.opens ki k4.len (by omega)
  cases e6
  have h5 := l5.ints (j := pl) (by rw [rowL_len]; exact hpm)
  have h6 := l6.ints (j := pl) (by rw [rowL_len]; exact hpm)
  rw [rowL_get hs l hpm, Nat.zero_add] at h5 h6
  rw [exp] at h5
  rw [exq] at h6
  obtain ⟨s0, s1, sf0, sf1, sl⟩ := block2 (unhide HSB)
  have i1 : (0 : Int) ≤ (p : Int) := by omega
  have i2 : (p : Int) < (n : Int) := by omega
  have i3 : (0 : Int) ≤ (q : Int) := by omega
  have i4 : (q : Int) < (n : Int) := by omega
  have i5 : (0 : Int) ≤ (pl : Int) := by omega
  have i6 : (pl : Int) < (m : Int) := by omega
  clear l5 l6 h4 k4 exp exq hpl HR
  cases s <;> cases r
  · exact absurd ⟨rfl, rfl⟩ hsr
  all_goals
    clear hsr
    go_enter Try.func48, Try.ntmps48
    go_upto_region 1 with fail
    rw [unhide HE]
    clear HE
    go_upto_region 4 with fail
    go_quiet (fail)
    go_wp2_with fail
    go_ret
    exact ⟨by rw [unhide HQ]; rfl, by first | exact unhide HX | exact below_drewN (unhide HX) _⟩
end Go.Proofs.Ytbnmeeabpjmcoaa
