/-
  sweep.cycle at its work in a heap of its own: how it lies; hasRegister, hasSource, hasSlot, source, slot.
  sweep.cycle: hasSlot, source, slot.
-/
import Derived.Test.YtmkehjncnaokoaaSd
import Derived.BigQuiet
namespace Go.Proofs.Ytmkehjncnaokoaa
open Go.RowKit

/-- A heap, its registers, and a marker in it. -/
structure Gm where
  os : List (List Int)
  rs : List Int
  mm : Mk
theorem flat_ints2 : ∀ xs : List Int, xs.flatMap KI.f = xs.map (Value.int .i64)
  | [] => rfl
  | x :: r => by rw [List.flatMap_cons, flat_ints2 r]; rfl
theorem Own.o {base : Nat} {w : World} {v : Value} {xs : List Int} (h : Own KI base w v xs) : OwnO base w v xs := by
  have e : xs.flatMap KI.f = xs.map (Value.int .i64) := flat_ints2 xs
  rcases h with ⟨_, ⟨rfl, h1⟩ | ⟨g, cap, cur, rfl, hg, hh, h2, _, h4, h5⟩⟩
  · exact Or.inl ⟨rfl, List.eq_nil_of_length_eq_zero h1⟩
  · refine Or.inr ⟨g, 0, cap, rfl, hg, (Array.getElem?_eq_some_iff.1 hh).1, h2, fun j hj => ?_, there_block hh (by rw [h4]; show 0 + cap ≤ cap * 1; omega)⟩
    simp only [World.cell?, hh]
    have e2 : cur.toList[j]? = some (.int .i64 (xs.getD j 0)) := by
      have h6 : (cur.toList.take (xs.length * 1))[j]? = (xs.flatMap KI.f)[j]? := by rw [show xs.length * 1 = xs.length * KI.k from rfl, h5]
      rw [List.getElem?_take, if_pos (by omega)] at h6
      rw [h6, e, List.getElem?_map, List.getElem?_eq_getElem hj]
      simp [List.getD_eq_getElem?_getD, List.getElem?_eq_getElem hj]
    rw [Nat.zero_add, ← Array.getElem?_toList]
    exact e2
/-- A cycle, its marker, and its heap: blocks of its own, each with its mark. -/
structure CyL (lo : Nat) (w : World) (lab : Nat → Nat) (cb : Nat) (z : Int) (b wb cw n bo co : Nat) (ar : Option Addr) (nr cr : Nat) (vl : Value) (g : Gm) : Prop where
  hn : g.os.length = n
  hr : g.rs.length = nr
  cyc : w.heap[cb]? = some (.cells #[.pointer (some ⟨b, 0, none⟩), .int .i64 z] 60 (0, 0))
  mka : MkAt lo w b n cw (.slice (some ⟨bo, 0, none⟩) n co) (.slice ar nr cr) wb vl g.mm
  oth : w.there bo 0 co
  ole : n ≤ co
  olt : bo < w.heap.size
  row : ∀ f, f < n → ∃ a c, w.cell? ⟨bo, f, none⟩ = some (.slice a (g.os.getD f []).length c) ∧ OwnO lo w (.slice a (g.os.getD f []).length c) (g.os.getD f []) ∧ ∀ k, (Value.slice a (g.os.getD f []).length c).ownBlock = some k → lab k = 7 + f
  reg : OwnO lo w (.slice ar nr cr) g.rs
  rlb : ∀ k, (Value.slice ar nr cr).ownBlock = some k → lab k = 5
  lbs : lab cb = 1 ∧ lab b = 2 ∧ lab wb = 3 ∧ lab bo = 6
  llb : ∀ k, vl.ownBlock = some k → lab k = 4
  low : lo ≤ cb ∧ lo ≤ bo
theorem CyL.clt {lo : Nat} {w : World} {lab : Nat → Nat} {cb : Nat} {z : Int} {b wb cw n bo co : Nat} {ar : Option Addr} {nr cr : Nat} {vl : Value} {g : Gm} (h : CyL lo w lab cb z b wb cw n bo co ar nr cr vl g) : cb < w.heap.size := size_of h.cyc
/-- Blocks that are kept. -/
theorem CyL.keep {lo : Nat} {w w' : World} {lab : Nat → Nat} {cb : Nat} {z : Int} {b wb cw n bo co : Nat} {ar : Option Addr} {nr cr : Nat} {vl : Value} {g : Gm} (h : CyL lo w lab cb z b wb cw n bo co ar nr cr vl g) (hb : Below w.heap.size w w') : CyL lo w' lab cb z b wb cw n bo co ar nr cr vl g := by
  refine ⟨h.hn, h.hr, keep_below h.cyc hb, h.mka.below hb, there_keep h.oth (hb.block bo h.olt), h.ole, Nat.lt_of_lt_of_le h.olt hb.size, fun f hf => ?_, h.reg.keep hb.size (fun k hk => hb.block k (h.reg.lt k hk).2), h.rlb, h.lbs, h.llb, h.low⟩
  obtain ⟨a, c, h1, h2, h3⟩ := h.row f hf
  exact ⟨a, c, cell_of h1 (hb.block bo h.olt), h2.keep hb.size (fun k hk => hb.block k (h2.lt k hk).2), h3⟩
theorem CyL.cycAt {lo : Nat} {w : World} {lab : Nat → Nat} {cb : Nat} {z : Int} {b wb cw n bo co : Nat} {ar : Option Addr} {nr cr : Nat} {vl : Value} {g : Gm} (h : CyL lo w lab cb z b wb cw n bo co ar nr cr vl g) : CycAt w cb b wb vl z := by
  have := h.lbs
  refine ⟨h.cyc, fun e => ?_, fun e => ?_, fun e => ?_⟩
  · subst e; omega
  · subst e; omega
  · have := h.llb _ e; omega
/-- The rows, apart from the marker's blocks. -/
theorem CyL.rrl {lo : Nat} {w : World} {lab : Nat → Nat} {cb : Nat} {z : Int} {b wb cw n bo co : Nat} {ar : Option Addr} {nr cr : Nat} {vl : Value} {g : Gm} (h : CyL lo w lab cb z b wb cw n bo co ar nr cr vl g) : RrL lo w b wb vl (.slice (some ⟨bo, 0, none⟩) n co) g.os := by
  have hl := h.lbs
  refine ⟨fun _ => ⟨bo, 0, co, by rw [h.hn], by rw [h.hn]; exact h.ole, ⟨h.low.2, h.olt, fun e => ?_, fun e => ?_, fun e => ?_⟩, fun f hf => ?_⟩⟩
  · subst e; omega
  · subst e; omega
  · have := h.llb _ e; omega
  · obtain ⟨a, c, h1, h2, h3⟩ := h.row f (by rw [← h.hn]; exact hf)
    refine ⟨a, c, by rw [Nat.zero_add]; exact h1, h2.isl, fun _ k hk => ?_⟩
    have q := h3 k hk
    have q2 := h2.lt k hk
    exact ⟨q2.1, q2.2, fun e => by subst e; omega, fun e => by subst e; omega, fun e => by have := h.llb _ e; omega⟩
theorem CyL.rtl {lo : Nat} {w : World} {lab : Nat → Nat} {cb : Nat} {z : Int} {b wb cw n bo co : Nat} {ar : Option Addr} {nr cr : Nat} {vl : Value} {g : Gm} (h : CyL lo w lab cb z b wb cw n bo co ar nr cr vl g) : RtL lo w b wb vl ar nr cr g.rs := by
  have hl := h.lbs
  refine ⟨h.reg.isl, fun _ k hk => ?_⟩
  have q := h.rlb k hk
  have q2 := h.reg.lt k hk
  exact ⟨q2.1, q2.2, fun e => by subst e; omega, fun e => by subst e; omega, fun e => by have := h.llb _ e; omega⟩
/-- What shading leaves. -/
theorem CyL.kp {lo : Nat} {w w' : World} {lab : Nat → Nat} {cb : Nat} {z : Int} {b wb cw n bo co : Nat} {ar : Option Addr} {nr cr : Nat} {vl vl' : Value} {g : Gm} {s' : Mk} (h : CyL lo w lab cb z b wb cw n bo co ar nr cr vl g) (hk : Kp w w' b wb vl vl') (hm : MkAt lo w' b n cw (.slice (some ⟨bo, 0, none⟩) n co) (.slice ar nr cr) wb vl' s') : CyL lo w' (fun k => if w.heap.size ≤ k then 4 else lab k) cb z b wb cw n bo co ar nr cr vl' ⟨g.os, g.rs, s'⟩ := by
  have hl := h.lbs
  have hlt : ∀ k, k < w.heap.size → (if w.heap.size ≤ k then 4 else lab k) = lab k := fun k hk => if_neg (by omega)
  have hkp : ∀ k, k < w.heap.size → lab k ≠ 2 → lab k ≠ 3 → lab k ≠ 4 → w'.heap[k]? = w.heap[k]? := fun k h1 h2 h3 h4 => hk.keep k h1 (fun e => by subst e; omega) (fun e => by subst e; omega) (fun e => h4 (h.llb k e))
  refine ⟨h.hn, h.hr, (hkp cb h.clt (by omega) (by omega) (by omega)).trans h.cyc, hm, there_keep h.oth (hkp bo h.olt (by omega) (by omega) (by omega)), h.ole, Nat.lt_of_lt_of_le h.olt hk.size, fun f hf => ?_, h.reg.keep hk.size (fun k q => by have := h.rlb k q; exact hkp k (h.reg.lt k q).2 (by omega) (by omega) (by omega)), fun k q => ?_, ⟨?_, ?_, ?_, ?_⟩, fun k q => ?_, h.low⟩
  · obtain ⟨a, c, h1, h2, h3⟩ := h.row f hf
    refine ⟨a, c, cell_of h1 (hkp bo h.olt (by omega) (by omega) (by omega)), h2.keep hk.size (fun k q => by have := h3 k q; exact hkp k (h2.lt k q).2 (by omega) (by omega) (by omega)), fun k q => ?_⟩
    rw [hlt k (h2.lt k q).2]
    exact h3 k q
  · skip
    rw [hlt k (h.reg.lt k q).2]
    exact h.rlb k q
  · rw [hlt cb h.clt]; exact hl.1
  · rw [hlt b h.mka.blt]; exact hl.2.1
  · rw [hlt wb h.mka.wlt]; exact hl.2.2.1
  · rw [hlt bo h.olt]; exact hl.2.2.2
  · skip
    by_cases e : w.heap.size ≤ k
    · rw [if_pos e]
    · rw [if_neg e]
      rcases hk.new k q with q2 | q2
      · exact h.llb k q2
      · omega
/-- A register's cell. -/
theorem CyL.regAt {lo : Nat} {w : World} {lab : Nat → Nat} {cb : Nat} {z : Int} {b wb cw n bo co : Nat} {ar : Option Addr} {nr cr : Nat} {vl : Value} {g : Gm} (h : CyL lo w lab cb z b wb cw n bo co ar nr cr vl g) {i : Nat} (hi : i < nr) : ∃ rb ro, ar = some ⟨rb, ro, none⟩ ∧ w.cell? ⟨rb, ro + i, none⟩ = some (.int .i64 (g.rs.getD i 0)) ∧ w.frozen? ⟨rb, ro + i, none⟩ = false ∧ lab rb = 5 ∧ lo ≤ rb ∧ rb < w.heap.size := by
  have hr := h.hr
  rcases h.reg with ⟨q1, q2⟩ | ⟨rb, ro, cap, q1, q2, q3, q4, q5, q6⟩
  · rw [q2] at hr; simp at hr; omega
  · cases q1
    refine ⟨rb, ro, rfl, q5 i (by omega), (q6 i (by omega)).2, h.rlb rb rfl, q2, q3⟩
/-- A slot's cell. -/
theorem CyL.slotAt {lo : Nat} {w : World} {lab : Nat → Nat} {cb : Nat} {z : Int} {b wb cw n bo co : Nat} {ar : Option Addr} {nr cr : Nat} {vl : Value} {g : Gm} (h : CyL lo w lab cb z b wb cw n bo co ar nr cr vl g) {f s : Nat} (hf : f < n) (hs : s < (g.os.getD f []).length) : ∃ rb ro c, w.cell? ⟨bo, f, none⟩ = some (.slice (some ⟨rb, ro, none⟩) (g.os.getD f []).length c) ∧ w.cell? ⟨rb, ro + s, none⟩ = some (.int .i64 ((g.os.getD f []).getD s 0)) ∧ w.frozen? ⟨rb, ro + s, none⟩ = false ∧ lab rb = 7 + f ∧ lo ≤ rb ∧ rb < w.heap.size := by
  obtain ⟨a, c, h1, h2, h3⟩ := h.row f hf
  rcases h2 with ⟨q1, q2⟩ | ⟨rb, ro, cap, q1, q2, q3, q4, q5, q6⟩
  · rw [q2] at hs; simp at hs
  · cases q1
    exact ⟨rb, ro, c, h1, q5 s hs, (q6 s (by omega)).2, h3 rb rfl, q2, q3⟩
def hasRB (nr : Nat) (a : Int) : Bool := decide (0 ≤ a) && decide (a < (nr : Int))
def hasSrcB (nr : Nat) (a : Int) : Bool := decide (a = -1) || hasRB nr a
def regG (g : Gm) (a : Int) : Int := g.rs.getD a.toNat 0
def rowG (g : Gm) (a : Int) : List Int := g.os.getD (regG g a).toNat []
def hasSlB (g : Gm) (a s : Int) : Bool := hasRB g.rs.length a && (!decide (regG g a = -1) && (decide (0 ≤ s) && decide (s < ((rowG g a).length : Int))))
def srcG (g : Gm) (a : Int) : Int := if a = -1 then -1 else regG g a
/-- What is good in a heap that changes. -/
structure GoodG (g : Gm) : Prop where
  gh : GoodH g.os g.rs
  ln : LnOk g.os.length g.mm

set_option maxRecDepth 100000 in
set_option maxHeartbeats 4000000 in
theorem hasRegister_any (w : World) {lo : Nat} {lab : Nat → Nat} {cb : Nat} {z : Int} {b wb cw n bo co : Nat} {ar : Option Addr} {nr cr : Nat} {vl : Value} {g : Gm} (h : CyL lo w lab cb z b wb cw n bo co ar nr cr vl g) (a : Int) :
    Calls Try.prog 42 #[.pointer (some ⟨cb, 0, none⟩), .int .i64 a] w fun e w' => e = .returned (.bool (hasRB nr a)) ∧ Below w.heap.size w w' := by
  obtain ⟨c0, c1, cf0, cf1, cl⟩ := block2 h.cyc
  obtain ⟨⟨m0, m1, m2, m3⟩, ⟨mf0, mf1, mf2, mf3⟩, ml⟩ := block4 h.mka.blk
  clear h
  by_cases h1 : 0 ≤ a
  · by_cases h2 : a < (nr : Int)
    · have e : hasRB nr a = true := by unfold hasRB; rw [decide_eq_true h1, decide_eq_true h2]; rfl
      rw [e]
      clear e
      go_enter Try.func42, Try.ntmps42
      go_wp2_with fail
      go_ret
      exact ⟨rfl, Below.refl _ _⟩
    · have e : hasRB nr a = false := by unfold hasRB; rw [decide_eq_true h1, decide_eq_false h2]; rfl
      rw [e]
      clear e
      go_enter Try.func42, Try.ntmps42
      go_wp2_with fail
      go_ret
      exact ⟨rfl, Below.refl _ _⟩
  · have e : hasRB nr a = false := by unfold hasRB; rw [decide_eq_false h1]; rfl
    rw [e]
    clear e
    go_enter Try.func42, Try.ntmps42
    go_wp2_with fail
    go_ret
    exact ⟨rfl, Below.refl _ _⟩

set_option maxRecDepth 100000 in
set_option maxHeartbeats 4000000 in
theorem hasSource_any (w : World) {lo : Nat} {lab : Nat → Nat} {cb : Nat} {z : Int} {b wb cw n bo co : Nat} {ar : Option Addr} {nr cr : Nat} {vl : Value} {g : Gm} (h : CyL lo w lab cb z b wb cw n bo co ar nr cr vl g) (a : Int) :
    Calls Try.prog 41 #[.pointer (some ⟨cb, 0, none⟩), .int .i64 a] w fun e w' => e = .returned (.bool (hasSrcB nr a)) ∧ Below w.heap.size w w' := by
  have HR := hide (hasRegister_any w h a)
  clear h
  by_cases h1 : a = -1
  · have e : hasSrcB nr a = true := by unfold hasSrcB; rw [decide_eq_true h1]; rfl
    rw [e]
    subst h1
    clear e
    go_enter Try.func41, Try.ntmps41
    go_wp2_with fail
    go_ret
    exact ⟨rfl, Below.refl _ _⟩
  · have e : hasSrcB nr a = hasRB nr a := by unfold hasSrcB; rw [decide_eq_false h1]; rfl
    have x1 : (a == -1) = false := by simpa using h1
    rw [e]
    clear e
    go_enter Try.func41, Try.ntmps41
    go_wp2_with (go_at_call 42; (with_reducible refine Calls.mono (unhide HR) ?_); rintro e w2 ⟨rfl, hb2⟩; have HB2 := hide hb2; clear hb2)
    go_ret
    exact ⟨rfl, unhide HB2⟩


theorem hasRB_yes {nr : Nat} {a : Int} (h : hasRB nr a = true) : ∃ i : Nat, a = (i : Int) ∧ i < nr := by
  unfold hasRB at h
  simp only [Bool.and_eq_true, decide_eq_true_eq] at h
  exact ⟨a.toNat, by omega, by omega⟩
theorem regG_at (g : Gm) (i : Nat) : regG g (i : Int) = g.rs.getD i 0 := by unfold regG; rw [Int.toNat_natCast]
/-- What a register holds. -/
theorem GoodG.reg {g : Gm} (h : GoodG g) {i : Nat} (hi : i < g.rs.length) : regG g (i : Int) = -1 ∨ ∃ f : Nat, regG g (i : Int) = (f : Int) ∧ f < g.os.length := by
  have := h.gh.ro _ (getD_mem hi)
  rw [← regG_at] at this
  by_cases e : regG g (i : Int) = -1
  · exact Or.inl e
  · exact Or.inr ⟨(regG g (i : Int)).toNat, by omega, by omega⟩
theorem rowG_at {g : Gm} {i f : Nat} (h : regG g (i : Int) = (f : Int)) : rowG g (i : Int) = g.os.getD f [] := by unfold rowG; rw [h, Int.toNat_natCast]

set_option maxRecDepth 100000 in
set_option maxHeartbeats 4000000 in
theorem hasSlot_any (w : World) {lo : Nat} {lab : Nat → Nat} {cb : Nat} {z : Int} {b wb cw n bo co : Nat} {ar : Option Addr} {nr cr : Nat} {vl : Value} {g : Gm} (h : CyL lo w lab cb z b wb cw n bo co ar nr cr vl g) (hg : GoodG g) (a s : Int) :
    Calls Try.prog 40 #[.pointer (some ⟨cb, 0, none⟩), .int .i64 a, .int .i64 s] w fun e w' => e = .returned (.bool (hasSlB g a s)) ∧ Below w.heap.size w w' := by
  have HR := hide (hasRegister_any w h a)
  have HC := hide h
  have hr := h.hr
  by_cases h1 : hasRB nr a = true
  · obtain ⟨i, rfl, hi⟩ := hasRB_yes h1
    rw [h1] at HR
    obtain ⟨rb, ro, ear, r1, r2, r3, r4, r5⟩ := h.regAt hi
    rw [← regG_at] at r1
    have i1 : (0 : Int) ≤ (i : Int) := by omega
    have i2 : (i : Int) < (nr : Int) := by omega
    rcases hg.reg (by rw [hr]; exact hi) with hq | ⟨f, hq, hf⟩
    · have e : hasSlB g (i : Int) s = false := by unfold hasSlB; rw [hr, h1, hq]; rfl
      rw [e]
      rw [hq] at r1
      obtain ⟨c0, c1, cf0, cf1, cl⟩ := block2 h.cyc
      obtain ⟨⟨m0, m1, m2, m3⟩, ⟨mf0, mf1, mf2, mf3⟩, ml⟩ := block4 h.mka.blk
      subst ear
      clear e h hg h1 hq
      go_enter Try.func40, Try.ntmps40
      go_wp2_with (go_at_call 42; (with_reducible refine Calls.mono (unhide HR) ?_); rintro e w2 ⟨rfl, hb2⟩; have HB2 := hide hb2; have HC2 := hide ((unhide HC).keep hb2); obtain ⟨d0, d1, df0, df1, dl⟩ := block2 (unhide HC2).cyc; obtain ⟨⟨n0, n1, n2, n3⟩, ⟨nf0, nf1, nf2, nf3⟩, nl⟩ := block4 (unhide HC2).mka.blk; have r6 := cell_of r1 (hb2.block rb r5); clear hb2)
      go_ret
      exact ⟨rfl, unhide HB2⟩
    · have hq2 : ((f : Int) == -1) = false := by simp
      have hfn : f < n := by rw [← h.hn]; exact hf
      have i3 : (0 : Int) ≤ (f : Int) := by omega
      have i4 : (f : Int) < (n : Int) := by omega
      obtain ⟨a4, c4, q4, _, _⟩ := h.row f hfn
      have er : rowG g (i : Int) = g.os.getD f [] := rowG_at hq
      obtain ⟨m, em⟩ : ∃ m, (g.os.getD f []).length = m := ⟨_, rfl⟩
      have e0 : hasSlB g (i : Int) s = (decide (0 ≤ s) && decide (s < (m : Int))) := by unfold hasSlB; rw [hr, h1, hq, er, em, decide_eq_false (by omega : ¬ (f : Int) = -1)]; rfl
      rw [e0]
      rw [em] at q4
      rw [hq] at r1
      obtain ⟨c0, c1, cf0, cf1, cl⟩ := block2 h.cyc
      obtain ⟨⟨m0, m1, m2, m3⟩, ⟨mf0, mf1, mf2, mf3⟩, ml⟩ := block4 h.mka.blk
      have hbo := h.olt
      subst ear
      clear e0 h hg h1 hq em er
      by_cases s1 : 0 ≤ s
      · have s2 : decide (0 ≤ s) = true := decide_eq_true s1
        by_cases s3 : s < (m : Int)
        · have s4 : decide (s < (m : Int)) = true := decide_eq_true s3
          rw [s2, s4]
          go_enter Try.func40, Try.ntmps40
          go_upto_region 3 with (go_at_call 42; (with_reducible refine Calls.mono (unhide HR) ?_); rintro e w2 ⟨rfl, hb2⟩; have HB2 := hide hb2; have HC2 := hide ((unhide HC).keep hb2); obtain ⟨d0, d1, df0, df1, dl⟩ := block2 (unhide HC2).cyc; obtain ⟨⟨n0, n1, n2, n3⟩, ⟨nf0, nf1, nf2, nf3⟩, nl⟩ := block4 (unhide HC2).mka.blk; have r6 := cell_of r1 (hb2.block rb r5); have q6 := cell_of q4 (hb2.block bo hbo); clear hb2)
          go_quiet (fail)
          go_wp2_with fail
          go_ret
          exact ⟨rfl, below_drewN (unhide HB2) _⟩
        · have s4 : decide (s < (m : Int)) = false := decide_eq_false s3
          rw [s2, s4]
          go_enter Try.func40, Try.ntmps40
          go_upto_region 3 with (go_at_call 42; (with_reducible refine Calls.mono (unhide HR) ?_); rintro e w2 ⟨rfl, hb2⟩; have HB2 := hide hb2; have HC2 := hide ((unhide HC).keep hb2); obtain ⟨d0, d1, df0, df1, dl⟩ := block2 (unhide HC2).cyc; obtain ⟨⟨n0, n1, n2, n3⟩, ⟨nf0, nf1, nf2, nf3⟩, nl⟩ := block4 (unhide HC2).mka.blk; have r6 := cell_of r1 (hb2.block rb r5); have q6 := cell_of q4 (hb2.block bo hbo); clear hb2)
          go_quiet (fail)
          go_wp2_with fail
          go_ret
          exact ⟨rfl, below_drewN (unhide HB2) _⟩
      · have s2 : decide (0 ≤ s) = false := decide_eq_false s1
        rw [s2]
        go_enter Try.func40, Try.ntmps40
        go_upto_region 3 with (go_at_call 42; (with_reducible refine Calls.mono (unhide HR) ?_); rintro e w2 ⟨rfl, hb2⟩; have HB2 := hide hb2; have HC2 := hide ((unhide HC).keep hb2); obtain ⟨d0, d1, df0, df1, dl⟩ := block2 (unhide HC2).cyc; obtain ⟨⟨n0, n1, n2, n3⟩, ⟨nf0, nf1, nf2, nf3⟩, nl⟩ := block4 (unhide HC2).mka.blk; have r6 := cell_of r1 (hb2.block rb r5); clear hb2)
        go_quiet (fail)
        go_wp2_with fail
        go_ret
        exact ⟨rfl, below_drewN (unhide HB2) _⟩
  · have h1' : hasRB nr a = false := by simpa using h1
    have e : hasSlB g a s = false := by unfold hasSlB; rw [hr, h1']; rfl
    rw [e]
    rw [h1'] at HR
    clear e h hg h1
    go_enter Try.func40, Try.ntmps40
    go_wp2_with (go_at_call 42; (with_reducible refine Calls.mono (unhide HR) ?_); rintro e w2 ⟨rfl, hb2⟩; have HB2 := hide hb2; clear hb2)
    go_ret
    exact ⟨rfl, unhide HB2⟩

set_option maxRecDepth 100000 in
set_option maxHeartbeats 4000000 in
theorem source_any (w : World) {lo : Nat} {lab : Nat → Nat} {cb : Nat} {z : Int} {b wb cw n bo co : Nat} {ar : Option Addr} {nr cr : Nat} {vl : Value} {g : Gm} (h : CyL lo w lab cb z b wb cw n bo co ar nr cr vl g) (a : Int) (ha : hasSrcB nr a = true) :
    Calls Try.prog 45 #[.pointer (some ⟨cb, 0, none⟩), .int .i64 a] w fun e w' => e = .returned (.int .i64 (srcG g a)) ∧ w' = w := by
  by_cases h1 : a = -1
  · subst h1
    have e : srcG g (-1) = -1 := rfl
    rw [e]
    clear e h ha
    go_enter Try.func45, Try.ntmps45
    go_wp2_with fail
    go_ret
    exact ⟨rfl, rfl⟩
  · have x1 : (a == -1) = false := by simpa using h1
    have hb : hasRB nr a = true := by unfold hasSrcB at ha; rw [decide_eq_false h1] at ha; exact ha
    have e : srcG g a = regG g a := by unfold srcG; rw [if_neg h1]
    obtain ⟨i, rfl, hi⟩ := hasRB_yes hb
    obtain ⟨rb, ro, ear, r1, r2, r3, r4, r5⟩ := h.regAt hi
    rw [← regG_at] at r1
    rw [e]
    have i1 : (0 : Int) ≤ (i : Int) := by omega
    have i2 : (i : Int) < (nr : Int) := by omega
    obtain ⟨c0, c1, cf0, cf1, cl⟩ := block2 h.cyc
    obtain ⟨⟨m0, m1, m2, m3⟩, ⟨mf0, mf1, mf2, mf3⟩, ml⟩ := block4 h.mka.blk
    subst ear
    clear e h ha hb h1
    go_enter Try.func45, Try.ntmps45
    go_wp2_with fail
    go_ret
    exact ⟨rfl, rfl⟩

set_option maxRecDepth 100000 in
set_option maxHeartbeats 4000000 in
theorem slot_any (w : World) {lo : Nat} {lab : Nat → Nat} {cb : Nat} {z : Int} {b wb cw n bo co : Nat} {ar : Option Addr} {nr cr : Nat} {vl : Value} {g : Gm} (h : CyL lo w lab cb z b wb cw n bo co ar nr cr vl g) (i f s : Nat) (hi : i < nr) (hq : regG g (i : Int) = (f : Int)) (hf : f < n) (hs : s < (g.os.getD f []).length) (rb ro c : Nat) (hc : w.cell? ⟨bo, f, none⟩ = some (.slice (some ⟨rb, ro, none⟩) (g.os.getD f []).length c)) :
    Calls Try.prog 44 #[.pointer (some ⟨cb, 0, none⟩), .int .i64 (i : Int), .int .i64 (s : Int)] w fun e w' => e = .returned (.pointer (some ⟨rb, ro + s, none⟩)) ∧ ∃ k, w' = w.drewN k := by
  obtain ⟨gb, go, ear, r1, r2, r3, r4, r5⟩ := h.regAt hi
  rw [← regG_at, hq] at r1
  have i1 : (0 : Int) ≤ (i : Int) := by omega
  have i2 : (i : Int) < (nr : Int) := by omega
  have i3 : (0 : Int) ≤ (f : Int) := by omega
  have i4 : (f : Int) < (n : Int) := by omega
  obtain ⟨m, em⟩ : ∃ m, (g.os.getD f []).length = m := ⟨_, rfl⟩
  rw [em] at hc hs
  have i5 : (0 : Int) ≤ (s : Int) := by omega
  have i6 : (s : Int) < (m : Int) := by omega
  obtain ⟨c0, c1, cf0, cf1, cl⟩ := block2 h.cyc
  obtain ⟨⟨m0, m1, m2, m3⟩, ⟨mf0, mf1, mf2, mf3⟩, ml⟩ := block4 h.mka.blk
  subst ear
  clear h hq em
  go_enter Try.func44, Try.ntmps44
  go_upto_region 1 with fail
  go_quiet (fail)
  go_wp2_with fail
  go_ret
  exact ⟨rfl, _, rfl⟩
end Go.Proofs.Ytmkehjncnaokoaa
