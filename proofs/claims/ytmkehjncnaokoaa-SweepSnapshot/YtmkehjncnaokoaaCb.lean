/-
  sweep.cycle: hasSlot, source, slot.
-/
import Derived.Test.YtmkehjncnaokoaaCa
import Derived.BigQuiet
namespace Go.Proofs.Ytmkehjncnaokoaa
open Go.RowKit

theorem hasRB_yes {nr : Nat} {a : Int} (h : hasRB nr a = true) : ∃ i : Nat, a = (i : Int) ∧ i < nr := by
  unfold hasRB at h
  simp only [Bool.and_eq_true, decide_eq_true_eq] at h
  exact ⟨a.toNat, by omega, by omega⟩
theorem regG_at (g : Gm) (i : Nat) : regG g (i : Int) = g.rs.getD i 0 := by unfold regG; rw [Int.toNat_natCast]
/-- What a register holds. -/
theorem GoodG.reg {g : Gm} (h : GoodG g) {i : Nat} (hi : i < g.rs.length) : regG g (i : Int) = -1 ∨ ∃ f : Nat, regG g (i : Int) = (f : Int) ∧ f < g.os.length := by
  have := h.gh.ro _ (getD_mem hi)
  rw [← regG_at] at this
  by_cases e : regG g (i : Int) = -1
  · exact Or.inl e
  · exact Or.inr ⟨(regG g (i : Int)).toNat, by omega, by omega⟩
theorem rowG_at {g : Gm} {i f : Nat} (h : regG g (i : Int) = (f : Int)) : rowG g (i : Int) = g.os.getD f [] := by unfold rowG; rw [h, Int.toNat_natCast]

set_option maxRecDepth 100000 in
set_option maxHeartbeats 4000000 in
theorem hasSlot_any (w : World) {lo : Nat} {lab : Nat → Nat} {cb : Nat} {z : Int} {b wb cw n bo co : Nat} {ar : Option Addr} {nr cr : Nat} {vl : Value} {g : Gm} (h : CyL lo w lab cb z b wb cw n bo co ar nr cr vl g) (hg : GoodG g) (a s : Int) :
    Calls Try.prog 40 #[.pointer (some ⟨cb, 0, none⟩), .int .i64 a, .int .i64 s] w fun e w' => e = .returned (.bool (hasSlB g a s)) ∧ Below w.heap.size w w' := by
  have HR := hide (hasRegister_any w h a)
  have HC := hide h
  have hr := h.hr
  by_cases h1 : hasRB nr a = true
  · obtain ⟨i, rfl, hi⟩ := hasRB_yes h1
    rw [h1] at HR
    obtain ⟨rb, ro, ear, r1, r2, r3, r4, r5⟩ := h.regAt hi
    rw [← regG_at] at r1
    have i1 : (0 : Int) ≤ (i : Int) := by omega
    have i2 : (i : Int) < (nr : Int) := by omega
    rcases hg.reg (by rw [hr]; exact hi) with hq | ⟨f, hq, hf⟩
    · have e : hasSlB g (i : Int) s = false := by unfold hasSlB; rw [hr, h1, hq]; rfl
      rw [e]
      rw [hq] at r1
      obtain ⟨c0, c1, cf0, cf1, cl⟩ := block2 h.cyc
      obtain ⟨⟨m0, m1, m2, m3⟩, ⟨mf0, mf1, mf2, mf3⟩, ml⟩ := block4 h.mka.blk
      subst ear
      clear e h hg h1 hq
      go_enter Try.func40, Try.ntmps40
      go_wp2_with (go_at_call 42; (with_reducible refine Calls.mono (unhide HR) ?_); rintro e w2 ⟨rfl, hb2⟩; have HB2 := hide hb2; have HC2 := hide ((unhide HC).keep hb2); obtain ⟨d0, d1, df0, df1, dl⟩ := block2 (unhide HC2).cyc; obtain ⟨⟨n0, n1, n2, n3⟩, ⟨nf0, nf1, nf2, nf3⟩, nl⟩ := block4 (unhide HC2).mka.blk; have r6 := cell_of r1 (hb2.block rb r5); clear hb2)
      go_ret
      exact ⟨rfl, unhide HB2⟩
    · have hq2 : ((f : Int) == -1) = false := by simp
      have hfn : f < n := by rw [← h.hn]; exact hf
      have i3 : (0 : Int) ≤ (f : Int) := by omega
      have i4 : (f : Int) < (n : Int) := by omega
      obtain ⟨a4, c4, q4, _, _⟩ := h.row f hfn
      have er : rowG g (i : Int) = g.os.getD f [] := rowG_at hq
      obtain ⟨m, em⟩ : ∃ m, (g.os.getD f []).length = m := ⟨_, rfl⟩
      have e0 : hasSlB g (i : Int) s = (decide (0 ≤ s) && decide (s < (m : Int))) := by unfold hasSlB; rw [hr, h1, hq, er, em, decide_eq_false (by omega : ¬ (f : Int) = -1)]; rfl
      rw [e0]
      rw [em] at q4
      rw [hq] at r1
      obtain ⟨c0, c1, cf0, cf1, cl⟩ := block2 h.cyc
      obtain ⟨⟨m0, m1, m2, m3⟩, ⟨mf0, mf1, mf2, mf3⟩, ml⟩ := block4 h.mka.blk
      have hbo := h.olt
      subst ear
      clear e0 h hg h1 hq em er
      by_cases s1 : 0 ≤ s
      · have s2 : decide (0 ≤ s) = true := decide_eq_true s1
        by_cases s3 : s < (m : Int)
        · have s4 : decide (s < (m : Int)) = true := decide_eq_true s3
          rw [s2, s4]
          go_enter Try.func40, Try.ntmps40
          go_upto_region 3 with (go_at_call 42; (with_reducible refine Calls.mono (unhide HR) ?_); rintro e w2 ⟨rfl, hb2⟩; have HB2 := hide hb2; have HC2 := hide ((unhide HC).keep hb2); obtain ⟨d0, d1, df0, df1, dl⟩ := block2 (unhide HC2).cyc; obtain ⟨⟨n0, n1, n2, n3⟩, ⟨nf0, nf1, nf2, nf3⟩, nl⟩ := block4 (unhide HC2).mka.blk; have r6 := cell_of r1 (hb2.block rb r5); have q6 := cell_of q4 (hb2.block bo hbo); clear hb2)
          go_quiet (fail)
          go_wp2_with fail
          go_ret
          exact ⟨rfl, below_drewN (unhide HB2) _⟩
        · have s4 : decide (s < (m : Int)) = false := decide_eq_false s3
          rw [s2, s4]
          go_enter Try.func40, Try.ntmps40
          go_upto_region 3 with (go_at_call 42; (with_reducible refine Calls.mono (unhide HR) ?_); rintro e w2 ⟨rfl, hb2⟩; have HB2 := hide hb2; have HC2 := hide ((unhide HC).keep hb2); obtain ⟨d0, d1, df0, df1, dl⟩ := block2 (unhide HC2).cyc; obtain ⟨⟨n0, n1, n2, n3⟩, ⟨nf0, nf1, nf2, nf3⟩, nl⟩ := block4 (unhide HC2).mka.blk; have r6 := cell_of r1 (hb2.block rb r5); have q6 := cell_of q4 (hb2.block bo hbo); clear hb2)
          go_quiet (fail)
          go_wp2_with fail
          go_ret
          exact ⟨rfl, below_drewN (unhide HB2) _⟩
      · have s2 : decide (0 ≤ s) = false := decide_eq_false s1
        rw [s2]
        go_enter Try.func40, Try.ntmps40
        go_upto_region 3 with (go_at_call 42; (with_reducible refine Calls.mono (unhide HR) ?_); rintro e w2 ⟨rfl, hb2⟩; have HB2 := hide hb2; have HC2 := hide ((unhide HC).keep hb2); obtain ⟨d0, d1, df0, df1, dl⟩ := block2 (unhide HC2).cyc; obtain ⟨⟨n0, n1, n2, n3⟩, ⟨nf0, nf1, nf2, nf3⟩, nl⟩ := block4 (unhide HC2).mka.blk; have r6 := cell_of r1 (hb2.block rb r5); clear hb2)
        go_quiet (fail)
        go_wp2_with fail
        go_ret
        exact ⟨rfl, below_drewN (unhide HB2) _⟩
  · have h1' : hasRB nr a = false := by simpa using h1
    have e : hasSlB g a s = false := by unfold hasSlB; rw [hr, h1']; rfl
    rw [e]
    rw [h1'] at HR
    clear e h hg h1
    go_enter Try.func40, Try.ntmps40
    go_wp2_with (go_at_call 42; (with_reducible refine Calls.mono (unhide HR) ?_); rintro e w2 ⟨rfl, hb2⟩; have HB2 := hide hb2; clear hb2)
    go_ret
    exact ⟨rfl, unhide HB2⟩

set_option maxRecDepth 100000 in
set_option maxHeartbeats 4000000 in
theorem source_any (w : World) {lo : Nat} {lab : Nat → Nat} {cb : Nat} {z : Int} {b wb cw n bo co : Nat} {ar : Option Addr} {nr cr : Nat} {vl : Value} {g : Gm} (h : CyL lo w lab cb z b wb cw n bo co ar nr cr vl g) (a : Int) (ha : hasSrcB nr a = true) :
    Calls Try.prog 45 #[.pointer (some ⟨cb, 0, none⟩), .int .i64 a] w fun e w' => e = .returned (.int .i64 (srcG g a)) ∧ w' = w := by
  by_cases h1 : a = -1
  · subst h1
    have e : srcG g (-1) = -1 := rfl
    rw [e]
    clear e h ha
    go_enter Try.func45, Try.ntmps45
    go_wp2_with fail
    go_ret
    exact ⟨rfl, rfl⟩
  · have x1 : (a == -1) = false := by simpa using h1
    have hb : hasRB nr a = true := by unfold hasSrcB at ha; rw [decide_eq_false h1] at ha; exact ha
    have e : srcG g a = regG g a := by unfold srcG; rw [if_neg h1]
    obtain ⟨i, rfl, hi⟩ := hasRB_yes hb
    obtain ⟨rb, ro, ear, r1, r2, r3, r4, r5⟩ := h.regAt hi
    rw [← regG_at] at r1
    rw [e]
    have i1 : (0 : Int) ≤ (i : Int) := by omega
    have i2 : (i : Int) < (nr : Int) := by omega
    obtain ⟨c0, c1, cf0, cf1, cl⟩ := block2 h.cyc
    obtain ⟨⟨m0, m1, m2, m3⟩, ⟨mf0, mf1, mf2, mf3⟩, ml⟩ := block4 h.mka.blk
    subst ear
    clear e h ha hb h1
    go_enter Try.func45, Try.ntmps45
    go_wp2_with fail
    go_ret
    exact ⟨rfl, rfl⟩

set_option maxRecDepth 100000 in
set_option maxHeartbeats 4000000 in
theorem slot_any (w : World) {lo : Nat} {lab : Nat → Nat} {cb : Nat} {z : Int} {b wb cw n bo co : Nat} {ar : Option Addr} {nr cr : Nat} {vl : Value} {g : Gm} (h : CyL lo w lab cb z b wb cw n bo co ar nr cr vl g) (i f s : Nat) (hi : i < nr) (hq : regG g (i : Int) = (f : Int)) (hf : f < n) (hs : s < (g.os.getD f []).length) (rb ro c : Nat) (hc : w.cell? ⟨bo, f, none⟩ = some (.slice (some ⟨rb, ro, none⟩) (g.os.getD f []).length c)) :
    Calls Try.prog 44 #[.pointer (some ⟨cb, 0, none⟩), .int .i64 (i : Int), .int .i64 (s : Int)] w fun e w' => e = .returned (.pointer (some ⟨rb, ro + s, none⟩)) ∧ ∃ k, w' = w.drewN k := by
  obtain ⟨gb, go, ear, r1, r2, r3, r4, r5⟩ := h.regAt hi
  rw [← regG_at, hq] at r1
  have i1 : (0 : Int) ≤ (i : Int) := by omega
  have i2 : (i : Int) < (nr : Int) := by omega
  have i3 : (0 : Int) ≤ (f : Int) := by omega
  have i4 : (f : Int) < (n : Int) := by omega
  obtain ⟨m, em⟩ : ∃ m, (g.os.getD f []).length = m := ⟨_, rfl⟩
  rw [em] at hc hs
  have i5 : (0 : Int) ≤ (s : Int) := by omega
  have i6 : (s : Int) < (m : Int) := by omega
  obtain ⟨c0, c1, cf0, cf1, cl⟩ := block2 h.cyc
  obtain ⟨⟨m0, m1, m2, m3⟩, ⟨mf0, mf1, mf2, mf3⟩, ml⟩ := block4 h.mka.blk
  subst ear
  clear h hq em
  go_enter Try.func44, Try.ntmps44
  go_upto_region 1 with fail
  go_quiet (fail)
  go_wp2_with fail
  go_ret
  exact ⟨rfl, _, rfl⟩
end Go.Proofs.Ytmkehjncnaokoaa
