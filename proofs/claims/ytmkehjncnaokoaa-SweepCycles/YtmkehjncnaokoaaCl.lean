/-
  sweep.cycle.born; do: what is new.
  sweep.cycle.do, whatever the act.
-/
import Derived.Test.YtmkehjncnaokoaaCj
namespace Go.Proofs.Ytmkehjncnaokoaa
open Go.RowKit

def bornG (g : Gm) (k : Nat) : Gm := ⟨g.os ++ [List.replicate k (-1)], g.rs, ⟨fun y => if y = g.os.length then false else g.mm.wh y, g.mm.ln⟩⟩
theorem getD_app {α : Type} (l : List α) (x d : α) (i : Nat) : (l ++ [x]).getD i d = if i = l.length then x else l.getD i d := by
  rw [List.getD_eq_getElem?_getD, List.getD_eq_getElem?_getD]
  by_cases e : i = l.length
  · subst e
    rw [if_pos rfl, List.getElem?_append_right (Nat.le_refl _), Nat.sub_self]
    rfl
  · rw [if_neg e]
    by_cases e2 : i < l.length
    · rw [List.getElem?_append_left e2]
    · rw [List.getElem?_eq_none (by simp; omega), List.getElem?_eq_none (by omega)]
theorem own_rep {lo G k : Nat} {w : World} (h : w.heap[G]? = some (.cells (repL k k).toArray 3 (0, 0))) (hl : lo ≤ G) : OwnO lo w (.slice (some ⟨G, 0, none⟩) k k) (List.replicate k (-1)) := by
  refine Or.inr ⟨G, 0, k, by rw [List.length_replicate], hl, size_of h, by rw [List.length_replicate]; exact Nat.le_refl _, fun j hj => ?_, there_block h (by rw [List.size_toArray, repL_len (Nat.le_refl _)]; omega)⟩
  rw [List.length_replicate] at hj
  simp only [World.cell?, h, Nat.zero_add]
  have e := repL_at (i := k) (k := k) (j := j) hj
  rw [List.getD_eq_getElem?_getD, List.getElem?_replicate, if_pos hj]
  simpa using e
/-- A cycle with one object more. -/
theorem CyL.born {lo : Nat} {w : World} {lab : Nat → Nat} {cb : Nat} {z : Int} {b wb cw n bo co : Nat} {ar : Option Addr} {nr cr : Nat} {vl : Value} {g : Gm} (h : CyL lo w lab cb z b wb cw n bo co ar nr cr vl g) {W1 W2 : World} {k g1 co' G g2 cw' : Nat} (h1 : Born1 w W1 b bo n k g1 co' G (.slice ar nr cr) (.slice (some ⟨wb, 0, none⟩) n cw) vl ((List.range n).map fun f => (w.cell? ⟨bo, f, none⟩).getD (.slice none 0 0))) (h2 : Born2 W1 W2 b wb n g2 cw' (.slice (some ⟨g1, 0, none⟩) (n + 1) co') (.slice ar nr cr) vl ((List.range n).map fun x => .bool (g.mm.wh x))) : ∃ lab', CyL lo W2 lab' cb z b g2 cw' (n + 1) g1 co' ar nr cr vl (bornG g k) := by
  have hl := h.lbs
  have hlow := h.low
  have hlob := h.mka.lob
  have hcl := h.clt; have hbl := h.mka.blt; have hwl := h.mka.wlt; have hol := h.olt
  have hs1 := h1.size; have hs2 := h2.size
  have hg1 := h1.lt; have hG := size_of h1.gh
  have hgl := h1.gl
  have nb : ∀ k, lab k ≠ 2 → k ≠ b := fun k q e => q (by rw [e]; exact hl.2.1)
  have nw : ∀ k, lab k ≠ 3 → k ≠ wb := fun k q e => q (by rw [e]; exact hl.2.2.1)
  have no : ∀ k, lab k ≠ 6 → k ≠ bo := fun k q e => q (by rw [e]; exact hl.2.2.2)
  have hk : ∀ k, k < w.heap.size → lab k ≠ 2 → lab k ≠ 3 → lab k ≠ 6 → W2.heap[k]? = w.heap[k]? := fun k k1 k2 k3 k4 => (h2.keep k (Nat.lt_of_lt_of_le k1 hs1) (nb k k2) (nw k k3)).trans (h1.keep k k1 (nb k k2) (no k k4))
  have hbo6 : bo ≠ b := nb bo (by omega)
  have hbow : bo ≠ wb := nw bo (by omega)
  have g1b : g1 ≠ b ∧ g1 ≠ wb := by rcases h1.src with q | q <;> constructor <;> omega
  have g2c : (g2 = wb ∨ W1.heap.size ≤ g2) := h2.src
  have hn := h.hn
  refine ⟨fun k => if k < w.heap.size then lab k else if k = g1 then 6 else if k = G then 7 + n else 3, ?_⟩
  have hlt : ∀ k, k < w.heap.size → (if k < w.heap.size then lab k else if k = g1 then 6 else if k = G then 7 + n else 3) = lab k := fun k q => if_pos q
  refine ⟨by show (g.os ++ [_]).length = n + 1; rw [List.length_append, hn]; rfl, h.hr, (hk cb hcl (by omega) (by omega) (by omega)).trans h.cyc, ⟨h2.blk, h2.th, h2.lt, fun x hx => ?_, h.mka.lin.keep (by omega) (fun k q => by have := h.llb k q; exact hk k (h.mka.lin.lt k q).2 (by omega) (by omega) (by omega)), ?_, ⟨hlob.1, ?_⟩, fun k q => ⟨(h.mka.vlb k q).1, ?_⟩, h2.le⟩, there_keep h1.th (h2.keep g1 hg1 g1b.1 g1b.2), h1.le, by omega, fun f hf => ?_, h.reg.keep (by omega) (fun k q => by have := h.rlb k q; exact hk k (h.reg.lt k q).2 (by omega) (by omega) (by omega)), fun k q => (hlt k (h.reg.lt k q).2).trans (h.rlb k q), ⟨(hlt cb hcl).trans hl.1, (hlt b hbl).trans hl.2.1, ?_, ?_⟩, fun k q => (hlt k (h.mka.lin.lt k q).2).trans (h.llb k q), hlow.1, ?_⟩
  · have e : ((List.range n).map (fun x => Value.bool (g.mm.wh x)) ++ [.bool false])[x]? = some (.bool (if x = g.os.length then false else g.mm.wh x)) := by
      by_cases e : x = n
      · subst e
        rw [List.getElem?_append_right (by simp), if_pos hn.symm]
        simp
      · have hxn : x < n := by omega
        rw [List.getElem?_append_left (by simpa using hxn), if_neg (by omega), List.getElem?_map, List.getElem?_range hxn]
        rfl
    exact h2.cells x _ e
  · rcases g2c with q | q
    · rw [q]; exact h.mka.ne
    · omega
  · rcases g2c with q | q
    · rw [q]; exact hlob.2
    · omega
  · rcases g2c with q2 | q2
    · rw [q2]; exact (h.mka.vlb k q).2
    · have := (h.mka.lin.lt k q).2; omega
  · show ∃ a c, W2.cell? ⟨g1, f, none⟩ = some (.slice a ((g.os ++ [List.replicate k (-1)]).getD f []).length c) ∧ OwnO lo W2 (.slice a ((g.os ++ [List.replicate k (-1)]).getD f []).length c) ((g.os ++ [List.replicate k (-1)]).getD f []) ∧ ∀ q, (Value.slice a ((g.os ++ [List.replicate k (-1)]).getD f []).length c).ownBlock = some q → (if q < w.heap.size then lab q else if q = g1 then 6 else if q = G then 7 + n else 3) = 7 + f
    rw [getD_app]
    by_cases e : f = g.os.length
    · rw [if_pos e, List.length_replicate]
      have ef : f = n := by omega
      subst ef
      refine ⟨some ⟨G, 0, none⟩, k, ?_, own_rep ((h2.keep G hG (by omega) (by omega)).trans h1.gh) (by omega), fun q hq => ?_⟩
      · refine cell_of (h1.cells f _ ?_) (h2.keep g1 hg1 g1b.1 g1b.2)
        rw [List.getElem?_append_right (by simp)]
        simp
      · obtain rfl : G = q := Option.some.inj hq
        rw [if_neg (by omega), if_neg h1.gg, if_pos rfl]
    · rw [if_neg e]
      have hfn : f < n := by omega
      obtain ⟨a, c, p1, p2, p3⟩ := h.row f hfn
      refine ⟨a, c, ?_, p2.keep (by omega) (fun q hq => by have := p3 q hq; exact hk q (p2.lt q hq).2 (by omega) (by omega) (by omega)), fun q hq => (hlt q (p2.lt q hq).2).trans (p3 q hq)⟩
      refine cell_of (h1.cells f _ ?_) (h2.keep g1 hg1 g1b.1 g1b.2)
      rw [List.getElem?_append_left (by simpa using hfn), List.getElem?_map, List.getElem?_range hfn, Option.map_some, p1]
      rfl
  · rcases g2c with q | q
    · rw [q]; exact (hlt wb hwl).trans hl.2.2.1
    · rw [if_neg (by omega), if_neg (by omega), if_neg (by omega)]
  · rcases h1.src with q | q
    · rw [if_pos (by omega), q]; exact hl.2.2.2
    · rw [if_neg (by omega), if_pos rfl]
  · rcases h1.src with q | q
    · rw [q]; exact hlow.2
    · omega

set_option maxRecDepth 100000 in
set_option maxHeartbeats 4000000 in
theorem born_any {lo : Nat} {w : World} {lab : Nat → Nat} {cb : Nat} {z : Int} {b wb cw n bo co : Nat} {ar : Option Addr} {nr cr : Nat} {vl : Value} {g : Gm} (h : CyL lo w lab cb z b wb cw n bo co ar nr cr vl g) (k : Nat) (hk : k ≤ 20) (hn5 : n ≤ 500) :
    Calls Try.prog 46 #[.pointer (some ⟨cb, 0, none⟩), .int .i64 (k : Int)] w fun e w' => e = .returned (.int .i64 (n : Int)) ∧ (∃ lab' wb' cw' bo' co', CyL lo w' lab' cb z b wb' cw' (n + 1) bo' co' ar nr cr vl (bornG g k)) ∧ (∀ j, j < w.heap.size → lab j = 0 → w'.heap[j]? = w.heap[j]?) ∧ Below lo w w' := by
  have hl := h.lbs
  have hcl := h.clt; have hwl := h.mka.wlt
  have hlow := Nat.le_trans h.low.1 (Nat.le_of_lt hcl)
  have hlob := h.mka.lob; have hlo2 := h.low.2
  have n1 : b ≠ bo := fun e => by rw [e] at hl; omega
  have n2 : cb ≠ b := fun e => by rw [e] at hl; omega
  have n3 : cb ≠ bo := fun e => by rw [e] at hl; omega
  have n4 : b ≠ wb := Ne.symm h.mka.ne
  have n5 : cb ≠ wb := fun e => by rw [e] at hl; omega
  have n6 : wb ≠ bo := fun e => by rw [e] at hl; omega
  have HH := hide h
  have HL := hide hl
  go_enter Try.func46, Try.ntmps46
  go_upto_region 1 with fail
  refine born_1 w cb b bo n co k z (.slice ar nr cr) (.slice (some ⟨wb, 0, none⟩) n cw) vl ((List.range n).map fun f => (w.cell? ⟨bo, f, none⟩).getD (.slice none 0 0)) h.cyc h.mka.blk (by simp) (fun j u hu => ?_) h.oth h.ole h.olt n1 n2 n3 (by omega) hk _ _ _ (by kernel_rfl) ?_
  · have hj : j < n := by have := (List.getElem?_eq_some_iff.1 hu).1; simpa using this
    rw [List.getElem?_map, List.getElem?_range hj] at hu
    obtain ⟨a, c, p1, _⟩ := h.row j hj
    rw [Option.map_some, p1] at hu
    rw [p1]
    exact hu
  intro x5 x6 x7 x8 x9 x10 x11 x12 x13 x14 x15 x16 x17 x18 x19 x20 x21 x22 x23 x24 g1 co' G W1 hB1
  have HB1 := hide hB1
  have c1 : W1.heap[cb]? = some (.cells #[.pointer (some ⟨b, 0, none⟩), .int .i64 z] 60 (0, 0)) := (hB1.keep cb hcl n2 n3).trans h.cyc
  have k1 : W1.heap[wb]? = w.heap[wb]? := hB1.keep wb hwl (Ne.symm n4) n6
  go_upto_region 2 with fail
  refine born_2 W1 cb b wb n cw z (.slice (some ⟨g1, 0, none⟩) (n + 1) co') (.slice ar nr cr) vl ((List.range n).map fun x => .bool (g.mm.wh x)) c1 hB1.blk (by simp) (fun j u hu => ?_) (there_keep h.mka.wth k1) h.mka.wle (Nat.lt_of_lt_of_le hwl hB1.size) n4 n2 n5 (by omega) _ _ _ (by kernel_rfl) ?_
  · have hj : j < n := by have := (List.getElem?_eq_some_iff.1 hu).1; simpa using this
    rw [List.getElem?_map, List.getElem?_range hj] at hu
    rw [← Option.some.inj hu]
    exact cell_of (h.mka.whi j hj) k1
  intro y25 y26 y27 y28 y29 y30 y31 y32 y33 y34 y35 y36 y37 y38 y39 g2 cw' W2 hB2
  have HB2 := hide hB2
  have c2 : W2.heap[cb]? = some (.cells #[.pointer (some ⟨b, 0, none⟩), .int .i64 z] 60 (0, 0)) := (hB2.keep cb (Nat.lt_of_lt_of_le hcl hB1.size) n2 n5).trans c1
  obtain ⟨d0, d1, df0, df1, dl⟩ := block2 c2
  obtain ⟨⟨m0, m1, m2, m3⟩, ⟨mf0, mf1, mf2, mf3⟩, ml⟩ := block4 hB2.blk
  have hw1 : IntKind.i64.wrap (((n + 1 : Nat) : Int) - 1) = (n : Int) := by rw [wrapi (by omega) (by omega)]; omega
  have hw2 : IntKind.i64.wrap ((n : Int) + 1 - 1) = (n : Int) := by rw [wrapi (by omega) (by omega)]; omega
  clear h hl hB1 hB2 c1 k1 c2 n1 n2 n3 n4 n5 n6 hlob hlo2
  go_wp2_with fail
  have h_ := unhide HH
  have hl_ := unhide HL
  have hb1 := unhide HB1
  have hb2 := unhide HB2
  have hlob_ := h_.mka.lob
  have hbw : Below lo w W2 := (hb1.below lo hlob_.1 h_.low.2 hlow).trans (hb2.below lo hlob_.1 hlob_.2 (Nat.le_trans hlow hb1.size))
  have hkp : ∀ j, j < w.heap.size → lab j = 0 → W2.heap[j]? = w.heap[j]? := fun j j1 j2 => (hb2.keep j (Nat.lt_of_lt_of_le j1 hb1.size) (fun e => by rw [e] at j2; omega) (fun e => by rw [e] at j2; omega)).trans (hb1.keep j j1 (fun e => by rw [e] at j2; omega) (fun e => by rw [e] at j2; omega))
  obtain ⟨lab', hnew⟩ := h_.born hb1 hb2
  go_ret
  exact ⟨rfl, ⟨lab', g2, cw', g1, co', hnew⟩, hkp, hbw⟩


set_option maxRecDepth 100000 in
set_option maxHeartbeats 4000000 in
theorem do_4 {lo : Nat} {w : World} {lab : Nat → Nat} {cb : Nat} {z : Int} {b wb cw n bo co : Nat} {ar : Option Addr} {nr cr : Nat} {vl : Value} {g : Gm} (h : CyL lo w lab cb z b wb cw n bo co ar nr cr vl g) (ta k : Nat) (hta : ta < nr) (hk : k ≤ 20) (hn5 : n ≤ 500) :
    Calls Try.prog 32 #[.pointer (some ⟨cb, 0, none⟩), .agg #[.int .i64 4, .int .i64 (ta : Int), .int .i64 (k : Int), .int .i64 0]] w fun e w' => e = .returned (.tuple #[]) ∧ CyX lo w' cb z ⟨(bornG g k).os, (bornG g k).rs.set ta (n : Int), (bornG g k).mm⟩ ∧ Below lo w w' := by
  have hx : Below w.heap.size w (w.alloc (.cells #[.int .i64 4, .int .i64 (ta : Int), .int .i64 (k : Int), .int .i64 0] 47)) := (Below.refl _ _).alloc (Nat.le_refl _) _
  have HQ := hide (new_block w (.cells #[.int .i64 4, .int .i64 (ta : Int), .int .i64 (k : Int), .int .i64 0] 47))
  have h0 := h.fresh (.cells #[.int .i64 4, .int .i64 (ta : Int), .int .i64 (k : Int), .int .i64 0] 47)
  have hlow : lo ≤ w.heap.size := Nat.le_trans h.low.1 (Nat.le_of_lt h.clt)
  obtain ⟨gb, go, ear, _, _, hl5, hlo5, hlt5⟩ := h.regAt hta
  have hl5b := h0.rlb gb (by rw [ear]; rfl)
  have hl := h0.lbs
  have hn1 : cb ≠ gb := fun e => by rw [e] at hl; omega
  have hn2 : b ≠ gb := fun e => by rw [e] at hl; omega
  have hn3 : w.heap.size ≠ gb := by omega
  clear hl5b hl5 hl
  obtain ⟨W0, e0⟩ : ∃ X, w.alloc (.cells #[.int .i64 4, .int .i64 (ta : Int), .int .i64 (k : Int), .int .i64 0] 47) = X := ⟨_, rfl⟩
  rw [e0] at hx HQ h0
  have hwz : w.heap.size < W0.heap.size := size_of (unhide HQ)
  have HLW := hide hlow
  have HL : Hid (lo ≤ W0.heap.size) := Nat.le_trans hlow hx.size
  have HSL : Hid (∀ W, Below W0.heap.size W0 W → Calls Try.prog 46 #[.pointer (some ⟨cb, 0, none⟩), .int .i64 (k : Int)] W fun e w' => e = .returned (.int .i64 (n : Int)) ∧ (fun W => W.cell? ⟨cb, 0, none⟩ = some (.pointer (some ⟨b, 0, none⟩)) ∧ W.cell? ⟨b, 1, none⟩ = some (.slice (some ⟨gb, go, none⟩) nr cr) ∧ W.cell? ⟨w.heap.size, 1, none⟩ = some (.int .i64 (ta : Int)) ∧ W.cell? ⟨w.heap.size, 2, none⟩ = some (.int .i64 (k : Int))) w' ∧ (∃ x, w'.cell? ⟨gb, go + ta, none⟩ = some (.int .i64 x) ∧ w'.frozen? ⟨gb, go + ta, none⟩ = false) ∧ CyX lo (w'.setCell ⟨gb, go + ta, none⟩ (.int .i64 (n : Int))) cb z ⟨(bornG g k).os, (bornG g k).rs.set ta (n : Int), (bornG g k).mm⟩ ∧ Below lo W0 w') := fun W hW => (born_any (h0.keep hW) k hk hn5).mono fun e w' ⟨h1, ⟨lab', wb', cw', bo', co', h2⟩, h3, h4⟩ => by
    have hq := (h3 w.heap.size (Nat.lt_of_lt_of_le hwz hW.size) (if_pos rfl)).trans (keep_below (unhide HQ) hW)
    obtain ⟨gb', go', ear', p1, p2, _⟩ := h2.regAt hta
    rw [ear] at ear'
    cases ear'
    refine ⟨h1, ⟨(block2 h2.cyc).1, by rw [← ear]; exact (block4 h2.mka.blk).1.2.1, (block4 hq).1.2.1, (block4 hq).1.2.2.1⟩, ⟨_, p1, p2⟩, CyX.of (h2.setReg hta ear (n : Int)), (hW.mono (unhide HL)).trans h4⟩
  have HSS : Hid (∀ W : World, Below W0.heap.size W0 W → W.cell? ⟨cb, 0, none⟩ = some (.pointer (some ⟨b, 0, none⟩)) ∧ W.cell? ⟨b, 1, none⟩ = some (.slice (some ⟨gb, go, none⟩) nr cr) ∧ W.cell? ⟨w.heap.size, 1, none⟩ = some (.int .i64 (ta : Int)) ∧ W.cell? ⟨w.heap.size, 2, none⟩ = some (.int .i64 (k : Int))) := fun W hW => ⟨(block2 (keep_below h0.cyc hW)).1, by rw [← ear]; exact (block4 (keep_below h0.mka.blk hW)).1.2.1, (block4 (keep_below (unhide HQ) hW)).1.2.1, (block4 (keep_below (unhide HQ) hW)).1.2.2.1⟩
  have HS3 : Hid (∀ (W : World) (v : Value), (W.cell? ⟨cb, 0, none⟩ = some (.pointer (some ⟨b, 0, none⟩)) ∧ W.cell? ⟨b, 1, none⟩ = some (.slice (some ⟨gb, go, none⟩) nr cr) ∧ W.cell? ⟨w.heap.size, 1, none⟩ = some (.int .i64 (ta : Int)) ∧ W.cell? ⟨w.heap.size, 2, none⟩ = some (.int .i64 (k : Int))) → (W.setCell ⟨gb, go + ta, none⟩ v).cell? ⟨cb, 0, none⟩ = some (.pointer (some ⟨b, 0, none⟩)) ∧ (W.setCell ⟨gb, go + ta, none⟩ v).cell? ⟨b, 1, none⟩ = some (.slice (some ⟨gb, go, none⟩) nr cr) ∧ (W.setCell ⟨gb, go + ta, none⟩ v).cell? ⟨w.heap.size, 1, none⟩ = some (.int .i64 (ta : Int)) ∧ (W.setCell ⟨gb, go + ta, none⟩ v).cell? ⟨w.heap.size, 2, none⟩ = some (.int .i64 (k : Int))) := fun W v hW => ⟨cell_other hW.1 (Or.inl hn1) v, cell_other hW.2.1 (Or.inl hn2) v, cell_other hW.2.2.1 (Or.inl hn3) v, cell_other hW.2.2.2 (Or.inl hn3) v⟩
  have HE := hide e0
  have HX := hide hx
  have HB0 : Hid (Below W0.heap.size W0 W0) := Below.refl _ _
  have HB1 : Hid (Below W0.heap.size W0 W0.drew) := (Below.refl _ _).drew
  have j1 : (0 : Int) ≤ (ta : Int) := by omega
  have j2 : (ta : Int) < (nr : Int) := by omega
  clear e0 h h0 hx hlow ear hn1 hn2 hn3 hk hn5 hwz
  go_enter Try.func32, Try.ntmps32
  go_upto_region 1 with fail
  rw [unhide HE]
  clear HE
  obtain ⟨⟨q0, q1, q2, q3⟩, -, ql⟩ := block4 (unhide HQ)
  go_upto_region 9 with fail
  clear q0 q1 q2 q3 ql
  go_region_held3 (fun W => W.cell? ⟨cb, 0, none⟩ = some (.pointer (some ⟨b, 0, none⟩)) ∧ W.cell? ⟨b, 1, none⟩ = some (.slice (some ⟨gb, go, none⟩) nr cr) ∧ W.cell? ⟨w.heap.size, 1, none⟩ = some (.int .i64 (ta : Int)) ∧ W.cell? ⟨w.heap.size, 2, none⟩ = some (.int .i64 (k : Int)))
    (first | with_reducible exact unhide HSS _ (unhide HB0) | with_reducible exact unhide HSS _ (unhide HB1) | with_reducible exact unhide HS4 | with_reducible exact unhide HS3 _ _ (unhide HS4))
    (first | (go_at_call 46; (with_reducible refine Calls.mono (unhide HSL _ (by first | with_reducible exact unhide HB1 | with_reducible exact unhide HB0)) ?_); rintro e w4 ⟨rfl, hs4, ⟨x4, g4, f4⟩, hc4, hb4⟩; have HS4 := hide hs4; have HC4 := hide hc4; have HB4 := hide hb4; clear hs4 hc4 hb4))
  have hlo5' : lo ≤ gb := hlo5
  all_goals (first
    | exact bodyPost_end (v := .tuple #[]) (by simp [results]) rfl ⟨rfl, unhide HC4, (((unhide HX).mono (unhide HLW)).trans (unhide HB4)).setCell (p := ⟨gb, go + ta, none⟩) hlo5' _⟩
    | (go_wp2_with fail; exact bodyPost_end (v := .tuple #[]) (by simp [results, Try.results32]) rfl ⟨rfl, unhide HC4, (((unhide HX).mono (unhide HLW)).trans (unhide HB4)).setCell (p := ⟨gb, go + ta, none⟩) hlo5' _⟩))
theorem GoodG.rows {g : Gm} (hg : GoodG g) {n : Nat} (hn : g.os.length = n) : GoodR g.os n := by have h_ := hg.gh.rows; rwa [hn] at h_
theorem do_5 {lo : Nat} {w : World} {lab : Nat → Nat} {cb : Nat} {z : Int} {b wb cw n bo co : Nat} {ar : Option Addr} {nr cr : Nat} {vl : Value} {g : Gm} (h : CyL lo w lab cb z b wb cw n bo co ar nr cr vl g) (hg : GoodG g) :
    Calls Try.prog 32 #[.pointer (some ⟨cb, 0, none⟩), .agg #[.int .i64 5, .int .i64 0, .int .i64 0, .int .i64 0]] w fun e w' => e = .returned (.tuple #[]) ∧ CyX lo w' cb z ⟨g.os, g.rs, markM g.os g.mm⟩ ∧ Below lo w w' :=
  (do_any w cb b wb lo n (.slice (some ⟨bo, 0, none⟩) n co) (.slice ar nr cr) vl z g.mm h.cycAt h.mka g.os (hg.rows h.hn) h.rrl.rr (by have h_ := hg.ln; rwa [h.hn] at h_)).mono fun e w' ⟨h1, vl', h2, _, h3, h4⟩ => ⟨h1, CyX.of (h.kp h3 h2), h4⟩
theorem hasSlB_yes {g : Gm} (hg : GoodG g) {a s : Int} (h : hasSlB g a s = true) : ∃ i f t : Nat, a = (i : Int) ∧ i < g.rs.length ∧ regG g (i : Int) = (f : Int) ∧ f < g.os.length ∧ s = (t : Int) ∧ t < (g.os.getD f []).length := by
  unfold hasSlB at h
  simp only [Bool.and_eq_true, Bool.not_eq_true', decide_eq_true_eq, decide_eq_false_iff_not] at h
  obtain ⟨h1, h2, h3, h4⟩ := h
  obtain ⟨i, rfl, hi⟩ := hasRB_yes h1
  rcases hg.reg hi with q | ⟨f, q, hf⟩
  · exact absurd q h2
  · rw [rowG_at q] at h4
    exact ⟨i, f, s.toNat, rfl, hi, q, hf, by omega, by omega⟩
/-- What an act does. -/
def doG (z : Int) (g : Gm) (x : Ac) : Gm :=
  if x.op = 1 then ⟨g.os.set (regG g x.a).toNat ((rowG g x.a).set x.b.toNat (srcG g x.c)), g.rs, shB z g.mm ((rowG g x.a).getD x.b.toNat 0) (srcG g x.c)⟩
  else if x.op = 2 then ⟨g.os, g.rs.set x.a.toNat ((rowG g x.c).getD x.b.toNat 0), g.mm⟩
  else if x.op = 3 then ⟨g.os, g.rs.set x.a.toNat (srcG g x.c), g.mm⟩
  else if x.op = 4 then ⟨(bornG g x.b.toNat).os, g.rs.set x.a.toNat (g.os.length : Int), (bornG g x.b.toNat).mm⟩
  else ⟨g.os, g.rs, markM g.os g.mm⟩
theorem wrong_ops {g : Gm} {x : Ac} (h : wrongG g x = 0) : x.op = 1 ∧ hasSlB g x.a x.b = true ∧ hasSrcB g.rs.length x.c = true ∨ x.op = 2 ∧ hasRB g.rs.length x.a = true ∧ hasSlB g x.c x.b = true ∨ x.op = 3 ∧ hasRB g.rs.length x.a = true ∧ hasSrcB g.rs.length x.c = true ∧ x.b = 0 ∨ x.op = 4 ∧ hasRB g.rs.length x.a = true ∧ 0 ≤ x.b ∧ x.b ≤ 20 ∧ x.c = 0 ∧ g.os.length ≠ 500 ∨ x = acM := by
  obtain ⟨op, a, b, c⟩ := x
  unfold wrongG at h
  dsimp only at h ⊢
  by_cases h1 : op = 1
  · rw [if_pos h1] at h
    by_cases q : hasSlB g a b = true ∧ hasSrcB g.rs.length c = true
    · exact Or.inl ⟨h1, q⟩
    · rw [if_neg q] at h; exact absurd h (by decide)
  rw [if_neg h1] at h
  by_cases h2 : op = 2
  · rw [if_pos h2] at h
    by_cases q : hasRB g.rs.length a = true ∧ hasSlB g c b = true
    · exact Or.inr (Or.inl ⟨h2, q⟩)
    · rw [if_neg q] at h; exact absurd h (by decide)
  rw [if_neg h2] at h
  by_cases h3 : op = 3
  · rw [if_pos h3] at h
    by_cases q : hasRB g.rs.length a = true ∧ hasSrcB g.rs.length c = true ∧ b = 0
    · exact Or.inr (Or.inr (Or.inl ⟨h3, q⟩))
    · rw [if_neg q] at h; exact absurd h (by decide)
  rw [if_neg h3] at h
  by_cases h4 : op = 4
  · rw [if_pos h4] at h
    by_cases q : hasRB g.rs.length a = true ∧ 0 ≤ b ∧ b ≤ 20 ∧ c = 0
    · rw [if_pos q] at h
      by_cases q2 : g.os.length = 500
      · rw [if_pos q2] at h; exact absurd h (by decide)
      · exact Or.inr (Or.inr (Or.inr (Or.inl ⟨h4, q.1, q.2.1, q.2.2.1, q.2.2.2, q2⟩)))
    · rw [if_neg q] at h; exact absurd h (by decide)
  rw [if_neg h4] at h
  by_cases h5 : op = 5
  · rw [if_pos h5] at h
    by_cases q : a = 0 ∧ b = 0 ∧ c = 0
    · refine Or.inr (Or.inr (Or.inr (Or.inr ?_)))
      unfold acM
      rw [h5, q.1, q.2.1, q.2.2]
    · rw [if_neg q] at h; exact absurd h (by decide)
  · rw [if_neg h5] at h; exact absurd h (by decide)
theorem do_all {lo : Nat} {w : World} {lab : Nat → Nat} {cb : Nat} {z : Int} {b wb cw n bo co : Nat} {ar : Option Addr} {nr cr : Nat} {vl : Value} {g : Gm} (h : CyL lo w lab cb z b wb cw n bo co ar nr cr vl g) (hz0 : 0 ≤ z) (hz3 : z ≤ 3) (hg : GoodG g) (x : Ac) (hx : wrongG g x = 0) :
    Calls Try.prog 32 #[.pointer (some ⟨cb, 0, none⟩), .agg #[.int .i64 x.op, .int .i64 x.a, .int .i64 x.b, .int .i64 x.c]] w fun e w' => e = .returned (.tuple #[]) ∧ CyX lo w' cb z (doG z g x) ∧ Below lo w w' := by
  have hn := h.hn
  have hr := h.hr
  have hn5 : n ≤ 500 := by rw [← hn]; exact hg.gh.no
  rcases wrong_ops hx with ⟨h1, h2, h3⟩ | ⟨h1, h2, h3⟩ | ⟨h1, h2, h3, h4⟩ | ⟨h1, h2, h3, h4, h5, h6⟩ | h1
  · obtain ⟨op, a, b', c⟩ := x
    dsimp only at h1 h2 h3
    obtain ⟨i, f, t, rfl, hi, hq, hf, rfl, ht⟩ := hasSlB_yes hg h2
    subst h1
    have e : doG z g ⟨1, (i : Int), (t : Int), c⟩ = ⟨g.os.set f ((g.os.getD f []).set t (srcG g c)), g.rs, shB z g.mm ((g.os.getD f []).getD t 0) (srcG g c)⟩ := by
      unfold doG
      rw [if_pos rfl]
      dsimp only
      rw [rowG_at hq, hq, Int.toNat_natCast, Int.toNat_natCast]
    rw [e]
    exact do_1 h hz0 hz3 hg i f t c (by omega) hq (by omega) ht (by rw [← hr]; exact h3)
  · obtain ⟨op, a, b', c⟩ := x
    dsimp only at h1 h2 h3
    obtain ⟨ta, rfl, hta⟩ := hasRB_yes h2
    obtain ⟨i, f, t, rfl, hi, hq, hf, rfl, ht⟩ := hasSlB_yes hg h3
    subst h1
    have e : doG z g ⟨2, (ta : Int), (t : Int), (i : Int)⟩ = ⟨g.os, g.rs.set ta ((g.os.getD f []).getD t 0), g.mm⟩ := by
      unfold doG
      dsimp only
      rw [if_neg (by decide), if_pos rfl]
      rw [rowG_at hq, Int.toNat_natCast, Int.toNat_natCast]
    rw [e]
    exact do_2 h hg ta (by omega) i f t (by omega) hq (by omega) ht
  · obtain ⟨op, a, b', c⟩ := x
    dsimp only at h1 h2 h3 h4
    obtain ⟨ta, rfl, hta⟩ := hasRB_yes h2
    subst h1 h4
    have e : doG z g ⟨3, (ta : Int), 0, c⟩ = ⟨g.os, g.rs.set ta (srcG g c), g.mm⟩ := by
      unfold doG
      dsimp only
      rw [if_neg (by decide), if_neg (by decide), if_pos rfl]
      rw [Int.toNat_natCast]
    rw [e]
    exact do_3 h hg ta (by omega) c (by rw [← hr]; exact h3)
  · obtain ⟨op, a, b', c⟩ := x
    dsimp only at h1 h2 h3 h4 h5
    obtain ⟨ta, rfl, hta⟩ := hasRB_yes h2
    obtain ⟨k, rfl⟩ : ∃ k : Nat, b' = (k : Int) := ⟨b'.toNat, by omega⟩
    subst h1 h5
    have e : doG z g ⟨4, (ta : Int), (k : Int), 0⟩ = ⟨(bornG g k).os, (bornG g k).rs.set ta (n : Int), (bornG g k).mm⟩ := by
      unfold doG
      dsimp only
      rw [if_neg (by decide), if_neg (by decide), if_neg (by decide), if_pos rfl]
      rw [Int.toNat_natCast, Int.toNat_natCast, hn]
      rfl
    rw [e]
    exact do_4 h ta k (by omega) (by omega) hn5
  · subst h1
    have e : doG z g acM = ⟨g.os, g.rs, markM g.os g.mm⟩ := rfl
    rw [e]
    exact do_5 h hg
end Go.Proofs.Ytmkehjncnaokoaa
