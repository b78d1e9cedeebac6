/-
  sweep.cycle.do, whatever the act.
-/
import Derived.Test.YtmkehjncnaokoaaCk
namespace Go.Proofs.Ytmkehjncnaokoaa
open Go.RowKit

set_option maxRecDepth 100000 in
set_option maxHeartbeats 4000000 in
theorem do_4 {lo : Nat} {w : World} {lab : Nat → Nat} {cb : Nat} {z : Int} {b wb cw n bo co : Nat} {ar : Option Addr} {nr cr : Nat} {vl : Value} {g : Gm} (h : CyL lo w lab cb z b wb cw n bo co ar nr cr vl g) (ta k : Nat) (hta : ta < nr) (hk : k ≤ 20) (hn5 : n ≤ 500) :
    Calls Try.prog 32 #[.pointer (some ⟨cb, 0, none⟩), .agg #[.int .i64 4, .int .i64 (ta : Int), .int .i64 (k : Int), .int .i64 0]] w fun e w' => e = .returned (.tuple #[]) ∧ CyX lo w' cb z ⟨(bornG g k).os, (bornG g k).rs.set ta (n : Int), (bornG g k).mm⟩ ∧ Below lo w w' := by
  have hx : Below w.heap.size w (w.alloc (.cells #[.int .i64 4, .int .i64 (ta : Int), .int .i64 (k : Int), .int .i64 0] 47)) := (Below.refl _ _).alloc (Nat.le_refl _) _
  have HQ := hide (new_block w (.cells #[.int .i64 4, .int .i64 (ta : Int), .int .i64 (k : Int), .int .i64 0] 47))
  have h0 := h.fresh (.cells #[.int .i64 4, .int .i64 (ta : Int), .int .i64 (k : Int), .int .i64 0] 47)
  have hlow : lo ≤ w.heap.size := Nat.le_trans h.low.1 (Nat.le_of_lt h.clt)
  obtain ⟨gb, go, ear, _, _, hl5, hlo5, hlt5⟩ := h.regAt hta
  have hl5b := h0.rlb gb (by rw [ear]; rfl)
  have hl := h0.lbs
  have hn1 : cb ≠ gb := fun e => by rw [e] at hl; omega
  have hn2 : b ≠ gb := fun e => by rw [e] at hl; omega
  have hn3 : w.heap.size ≠ gb := by omega
  clear hl5b hl5 hl
  obtain ⟨W0, e0⟩ : ∃ X, w.alloc (.cells #[.int .i64 4, .int .i64 (ta : Int), .int .i64 (k : Int), .int .i64 0] 47) = X := ⟨_, rfl⟩
  rw [e0] at hx HQ h0
  have hwz : w.heap.size < W0.heap.size := size_of (unhide HQ)
  have HLW := hide hlow
  have HL : Hid (lo ≤ W0.heap.size) := Nat.le_trans hlow hx.size
  have HSL : Hid (∀ W, Below W0.heap.size W0 W → Calls Try.prog 46 #[.pointer (some ⟨cb, 0, none⟩), .int .i64 (k : Int)] W fun e w' => e = .returned (.int .i64 (n : Int)) ∧ (fun W => W.cell? ⟨cb, 0, none⟩ = some (.pointer (some ⟨b, 0, none⟩)) ∧ W.cell? ⟨b, 1, none⟩ = some (.slice (some ⟨gb, go, none⟩) nr cr) ∧ W.cell? ⟨w.heap.size, 1, none⟩ = some (.int .i64 (ta : Int)) ∧ W.cell? ⟨w.heap.size, 2, none⟩ = some (.int .i64 (k : Int))) w' ∧ (∃ x, w'.cell? ⟨gb, go + ta, none⟩ = some (.int .i64 x) ∧ w'.frozen? ⟨gb, go + ta, none⟩ = false) ∧ CyX lo (w'.setCell ⟨gb, go + ta, none⟩ (.int .i64 (n : Int))) cb z ⟨(bornG g k).os, (bornG g k).rs.set ta (n : Int), (bornG g k).mm⟩ ∧ Below lo W0 w') := fun W hW => (born_any (h0.keep hW) k hk hn5).mono fun e w' ⟨h1, ⟨lab', wb', cw', bo', co', h2⟩, h3, h4⟩ => by
    have hq := (h3 w.heap.size (Nat.lt_of_lt_of_le hwz hW.size) (if_pos rfl)).trans (keep_below (unhide HQ) hW)
    obtain ⟨gb', go', ear', p1, p2, _⟩ := h2.regAt hta
    rw [ear] at ear'
    cases ear'
    refine ⟨h1, ⟨(block2 h2.cyc).1, by rw [← ear]; exact (block4 h2.mka.blk).1.2.1, (block4 hq).1.2.1, (block4 hq).1.2.2.1⟩, ⟨_, p1, p2⟩, CyX.of (h2.setReg hta ear (n : Int)), (hW.mono (unhide HL)).trans h4⟩
  have HSS : Hid (∀ W : World, Below W0.heap.size W0 W → W.cell? ⟨cb, 0, none⟩ = some (.pointer (some ⟨b, 0, none⟩)) ∧ W.cell? ⟨b, 1, none⟩ = some (.slice (some ⟨gb, go, none⟩) nr cr) ∧ W.cell? ⟨w.heap.size, 1, none⟩ = some (.int .i64 (ta : Int)) ∧ W.cell? ⟨w.heap.size, 2, none⟩ = some (.int .i64 (k : Int))) := fun W hW => ⟨(block2 (keep_below h0.cyc hW)).1, by rw [← ear]; exact (block4 (keep_below h0.mka.blk hW)).1.2.1, (block4 (keep_below (unhide HQ) hW)).1.2.1, (block4 (keep_below (unhide HQ) hW)).1.2.2.1⟩
  have HS3 : Hid (∀ (W : World) (v : Value), (W.cell? ⟨cb, 0, none⟩ = some (.pointer (some ⟨b, 0, none⟩)) ∧ W.cell? ⟨b, 1, none⟩ = some (.slice (some ⟨gb, go, none⟩) nr cr) ∧ W.cell? ⟨w.heap.size, 1, none⟩ = some (.int .i64 (ta : Int)) ∧ W.cell? ⟨w.heap.size, 2, none⟩ = some (.int .i64 (k : Int))) → (W.setCell ⟨gb, go + ta, none⟩ v).cell? ⟨cb, 0, none⟩ = some (.pointer (some ⟨b, 0, none⟩)) ∧ (W.setCell ⟨gb, go + ta, none⟩ v).cell? ⟨b, 1, none⟩ = some (.slice (some ⟨gb, go, none⟩) nr cr) ∧ (W.setCell ⟨gb, go + ta, none⟩ v).cell? ⟨w.heap.size, 1, none⟩ = some (.int .i64 (ta : Int)) ∧ (W.setCell ⟨gb, go + ta, none⟩ v).cell? ⟨w.heap.size, 2, none⟩ = some (.int .i64 (k : Int))) := fun W v hW => ⟨cell_other hW.1 (Or.inl hn1) v, cell_other hW.2.1 (Or.inl hn2) v, cell_other hW.2.2.1 (Or.inl hn3) v, cell_other hW.2.2.2 (Or.inl hn3) v⟩
  have HE := hide e0
  have HX := hide hx
  have HB0 : Hid (Below W0.heap.size W0 W0) := Below.refl _ _
  have HB1 : Hid (Below W0.heap.size W0 W0.drew) := (Below.refl _ _).drew
  have j1 : (0 : Int) ≤ (ta : Int) := by omega
  have j2 : (ta : Int) < (nr : Int) := by omega
  clear e0 h h0 hx hlow ear hn1 hn2 hn3 hk hn5 hwz
  go_enter Try.func32, Try.ntmps32
  go_upto_region 1 with fail
  rw [unhide HE]
  clear HE
  obtain ⟨⟨q0, q1, q2, q3⟩, -, ql⟩ := block4 (unhide HQ)
  go_upto_region 9 with fail
  clear q0 q1 q2 q3 ql
  go_region_held3 (fun W => W.cell? ⟨cb, 0, none⟩ = some (.pointer (some ⟨b, 0, none⟩)) ∧ W.cell? ⟨b, 1, none⟩ = some (.slice (some ⟨gb, go, none⟩) nr cr) ∧ W.cell? ⟨w.heap.size, 1, none⟩ = some (.int .i64 (ta : Int)) ∧ W.cell? ⟨w.heap.size, 2, none⟩ = some (.int .i64 (k : Int)))
    (first | with_reducible exact unhide HSS _ (unhide HB0) | with_reducible exact unhide HSS _ (unhide HB1) | with_reducible exact unhide HS4 | with_reducible exact unhide HS3 _ _ (unhide HS4))
    (first | (go_at_call 46; (with_reducible refine Calls.mono (unhide HSL _ (by first | with_reducible exact unhide HB1 | with_reducible exact unhide HB0)) ?_); rintro e w4 ⟨rfl, hs4, ⟨x4, g4, f4⟩, hc4, hb4⟩; have HS4 := hide hs4; have HC4 := hide hc4; have HB4 := hide hb4; clear hs4 hc4 hb4))
  have hlo5' : lo ≤ gb := hlo5
  all_goals (first
    | exact bodyPost_end (v := .tuple #[]) (by simp [results]) rfl ⟨rfl, unhide HC4, (((unhide HX).mono (unhide HLW)).trans (unhide HB4)).setCell (p := ⟨gb, go + ta, none⟩) hlo5' _⟩
    | (go_wp2_with fail; exact bodyPost_end (v := .tuple #[]) (by simp [results, Try.results32]) rfl ⟨rfl, unhide HC4, (((unhide HX).mono (unhide HLW)).trans (unhide HB4)).setCell (p := ⟨gb, go + ta, none⟩) hlo5' _⟩))
theorem GoodG.rows {g : Gm} (hg : GoodG g) {n : Nat} (hn : g.os.length = n) : GoodR g.os n := by have h_ := hg.gh.rows; rwa [hn] at h_
theorem do_5 {lo : Nat} {w : World} {lab : Nat → Nat} {cb : Nat} {z : Int} {b wb cw n bo co : Nat} {ar : Option Addr} {nr cr : Nat} {vl : Value} {g : Gm} (h : CyL lo w lab cb z b wb cw n bo co ar nr cr vl g) (hg : GoodG g) :
    Calls Try.prog 32 #[.pointer (some ⟨cb, 0, none⟩), .agg #[.int .i64 5, .int .i64 0, .int .i64 0, .int .i64 0]] w fun e w' => e = .returned (.tuple #[]) ∧ CyX lo w' cb z ⟨g.os, g.rs, markM g.os g.mm⟩ ∧ Below lo w w' :=
  (do_any w cb b wb lo n (.slice (some ⟨bo, 0, none⟩) n co) (.slice ar nr cr) vl z g.mm h.cycAt h.mka g.os (hg.rows h.hn) h.rrl.rr (by have h_ := hg.ln; rwa [h.hn] at h_)).mono fun e w' ⟨h1, vl', h2, _, h3, h4⟩ => ⟨h1, CyX.of (h.kp h3 h2), h4⟩
theorem hasSlB_yes {g : Gm} (hg : GoodG g) {a s : Int} (h : hasSlB g a s = true) : ∃ i f t : Nat, a = (i : Int) ∧ i < g.rs.length ∧ regG g (i : Int) = (f : Int) ∧ f < g.os.length ∧ s = (t : Int) ∧ t < (g.os.getD f []).length := by
  unfold hasSlB at h
  simp only [Bool.and_eq_true, Bool.not_eq_true', decide_eq_true_eq, decide_eq_false_iff_not] at h
  obtain ⟨h1, h2, h3, h4⟩ := h
  obtain ⟨i, rfl, hi⟩ := hasRB_yes h1
  rcases hg.reg hi with q | ⟨f, q, hf⟩
  · exact absurd q h2
  · rw [rowG_at q] at h4
    exact ⟨i, f, s.toNat, rfl, hi, q, hf, by omega, by omega⟩
/-- What an act does. -/
def doG (z : Int) (g : Gm) (x : Ac) : Gm :=
  if x.op = 1 then ⟨g.os.set (regG g x.a).toNat ((rowG g x.a).set x.b.toNat (srcG g x.c)), g.rs, shB z g.mm ((rowG g x.a).getD x.b.toNat 0) (srcG g x.c)⟩
  else if x.op = 2 then ⟨g.os, g.rs.set x.a.toNat ((rowG g x.c).getD x.b.toNat 0), g.mm⟩
  else if x.op = 3 then ⟨g.os, g.rs.set x.a.toNat (srcG g x.c), g.mm⟩
  else if x.op = 4 then ⟨(bornG g x.b.toNat).os, g.rs.set x.a.toNat (g.os.length : Int), (bornG g x.b.toNat).mm⟩
  else ⟨g.os, g.rs, markM g.os g.mm⟩
theorem wrong_ops {g : Gm} {x : Ac} (h : wrongG g x = 0) : x.op = 1 ∧ hasSlB g x.a x.b = true ∧ hasSrcB g.rs.length x.c = true ∨ x.op = 2 ∧ hasRB g.rs.length x.a = true ∧ hasSlB g x.c x.b = true ∨ x.op = 3 ∧ hasRB g.rs.length x.a = true ∧ hasSrcB g.rs.length x.c = true ∧ x.b = 0 ∨ x.op = 4 ∧ hasRB g.rs.length x.a = true ∧ 0 ≤ x.b ∧ x.b ≤ 20 ∧ x.c = 0 ∧ g.os.length ≠ 500 ∨ x = acM := by
  obtain ⟨op, a, b, c⟩ := x
  unfold wrongG at h
  dsimp only at h ⊢
  by_cases h1 : op = 1
  · rw [if_pos h1] at h
    by_cases q : hasSlB g a b = true ∧ hasSrcB g.rs.length c = true
    · exact Or.inl ⟨h1, q⟩
    · rw [if_neg q] at h; exact absurd h (by decide)
  rw [if_neg h1] at h
  by_cases h2 : op = 2
  · rw [if_pos h2] at h
    by_cases q : hasRB g.rs.length a = true ∧ hasSlB g c b = true
    · exact Or.inr (Or.inl ⟨h2, q⟩)
    · rw [if_neg q] at h; exact absurd h (by decide)
  rw [if_neg h2] at h
  by_cases h3 : op = 3
  · rw [if_pos h3] at h
    by_cases q : hasRB g.rs.length a = true ∧ hasSrcB g.rs.length c = true ∧ b = 0
    · exact Or.inr (Or.inr (Or.inl ⟨h3, q⟩))
    · rw [if_neg q] at h; exact absurd h (by decide)
  rw [if_neg h3] at h
  by_cases h4 : op = 4
  · rw [if_pos h4] at h
    by_cases q : hasRB g.rs.length a = true ∧ 0 ≤ b ∧ b ≤ 20 ∧ c = 0
    · rw [if_pos q] at h
      by_cases q2 : g.os.length = 500
      · rw [if_pos q2] at h; exact absurd h (by decide)
      · exact Or.inr (Or.inr (Or.inr (Or.inl ⟨h4, q.1, q.2.1, q.2.2.1, q.2.2.2, q2⟩)))
    · rw [if_neg q] at h; exact absurd h (by decide)
  rw [if_neg h4] at h
  by_cases h5 : op = 5
  · rw [if_pos h5] at h
    by_cases q : a = 0 ∧ b = 0 ∧ c = 0
    · refine Or.inr (Or.inr (Or.inr (Or.inr ?_)))
      unfold acM
      rw [h5, q.1, q.2.1, q.2.2]
    · rw [if_neg q] at h; exact absurd h (by decide)
  · rw [if_neg h5] at h; exact absurd h (by decide)
theorem do_all {lo : Nat} {w : World} {lab : Nat → Nat} {cb : Nat} {z : Int} {b wb cw n bo co : Nat} {ar : Option Addr} {nr cr : Nat} {vl : Value} {g : Gm} (h : CyL lo w lab cb z b wb cw n bo co ar nr cr vl g) (hz0 : 0 ≤ z) (hz3 : z ≤ 3) (hg : GoodG g) (x : Ac) (hx : wrongG g x = 0) :
    Calls Try.prog 32 #[.pointer (some ⟨cb, 0, none⟩), .agg #[.int .i64 x.op, .int .i64 x.a, .int .i64 x.b, .int .i64 x.c]] w fun e w' => e = .returned (.tuple #[]) ∧ CyX lo w' cb z (doG z g x) ∧ Below lo w w' := by
  have hn := h.hn
  have hr := h.hr
  have hn5 : n ≤ 500 := by rw [← hn]; exact hg.gh.no
  rcases wrong_ops hx with ⟨h1, h2, h3⟩ | ⟨h1, h2, h3⟩ | ⟨h1, h2, h3, h4⟩ | ⟨h1, h2, h3, h4, h5, h6⟩ | h1
  · obtain ⟨op, a, b', c⟩ := x
    dsimp only at h1 h2 h3
    obtain ⟨i, f, t, rfl, hi, hq, hf, rfl, ht⟩ := hasSlB_yes hg h2
    subst h1
    have e : doG z g ⟨1, (i : Int), (t : Int), c⟩ = ⟨g.os.set f ((g.os.getD f []).set t (srcG g c)), g.rs, shB z g.mm ((g.os.getD f []).getD t 0) (srcG g c)⟩ := by
      unfold doG
      rw [if_pos rfl]
      dsimp only
      rw [rowG_at hq, hq, Int.toNat_natCast, Int.toNat_natCast]
    rw [e]
    exact do_1 h hz0 hz3 hg i f t c (by omega) hq (by omega) ht (by rw [← hr]; exact h3)
  · obtain ⟨op, a, b', c⟩ := x
    dsimp only at h1 h2 h3
    obtain ⟨ta, rfl, hta⟩ := hasRB_yes h2
    obtain ⟨i, f, t, rfl, hi, hq, hf, rfl, ht⟩ := hasSlB_yes hg h3
    subst h1
    have e : doG z g ⟨2, (ta : Int), (t : Int), (i : Int)⟩ = ⟨g.os, g.rs.set ta ((g.os.getD f []).getD t 0), g.mm⟩ := by
      unfold doG
      dsimp only
      rw [if_neg (by decide), if_pos rfl]
      rw [rowG_at hq, Int.toNat_natCast, Int.toNat_natCast]
    rw [e]
    exact do_2 h hg ta (by omega) i f t (by omega) hq (by omega) ht
  · obtain ⟨op, a, b', c⟩ := x
    dsimp only at h1 h2 h3 h4
    obtain ⟨ta, rfl, hta⟩ := hasRB_yes h2
    subst h1 h4
    have e : doG z g ⟨3, (ta : Int), 0, c⟩ = ⟨g.os, g.rs.set ta (srcG g c), g.mm⟩ := by
      unfold doG
      dsimp only
      rw [if_neg (by decide), if_neg (by decide), if_pos rfl]
      rw [Int.toNat_natCast]
    rw [e]
    exact do_3 h hg ta (by omega) c (by rw [← hr]; exact h3)
  · obtain ⟨op, a, b', c⟩ := x
    dsimp only at h1 h2 h3 h4 h5
    obtain ⟨ta, rfl, hta⟩ := hasRB_yes h2
    obtain ⟨k, rfl⟩ : ∃ k : Nat, b' = (k : Int) := ⟨b'.toNat, by omega⟩
    subst h1 h5
    have e : doG z g ⟨4, (ta : Int), (k : Int), 0⟩ = ⟨(bornG g k).os, (bornG g k).rs.set ta (n : Int), (bornG g k).mm⟩ := by
      unfold doG
      dsimp only
      rw [if_neg (by decide), if_neg (by decide), if_neg (by decide), if_pos rfl]
      rw [Int.toNat_natCast, Int.toNat_natCast, hn]
      rfl
    rw [e]
    exact do_4 h ta k (by omega) (by omega) hn5
  · subst h1
    have e : doG z g acM = ⟨g.os, g.rs, markM g.os g.mm⟩ := rfl
    rw [e]
    exact do_5 h hg
end Go.Proofs.Ytmkehjncnaokoaa
