/-
  race.watch.add whatever the event; race.watch.guards.
-/
import Derived.Test.YtbnmeeabpjmcoaaYd
namespace Go.Proofs.Ytbnmeeabpjmcoaa
open Go.RowKit

set_option maxRecDepth 100000 in
set_option maxHeartbeats 4000000 in
theorem watAdd_else (lo : Nat) (w : World) (P H A D : Nat) (l : List Ev) (n : Nat) (hw : WatAt lo w P H A D l n) (tk op ob vl : Int) (ex : l.getD n ev0 = ⟨tk, op, ob, vl⟩) (hop : op ≠ 17) (hop2 : op ≠ 18) (hop3 : (op == 12 || op == 13) = false) :
    Calls Try.prog 40 #[.pointer (some ⟨P, 0, none⟩), .agg #[.int .i64 tk, .int .i64 op, .int .i64 ob, .int .i64 vl]] w fun e w' => e = .returned (.tuple #[]) ∧ WatAt lo w' P H A D l (n + 1) ∧ Below lo w w' := by
  have hlo : lo ≤ w.heap.size := Nat.le_trans hw.lp (Nat.le_of_lt (size_of hw.blk))
  obtain ⟨W0, e0, hB, k0, k1⟩ := two_new w (.cells #[.int .i64 tk, .int .i64 op, .int .i64 ob, .int .i64 vl] 41 (0, 0)) (.cells #[.int .i64 tk, .int .i64 ob] 92 (0, 0))
  have hW0 := hw.below hB
  obtain ⟨⟨p0, p1, p2, p3⟩, ⟨pf0, pf1, pf2, pf3⟩, pl_⟩ := block4 hW0.blk
  obtain ⟨⟨q0, q1, q2, q3⟩, ⟨f0, f1, f2, f3⟩, ql⟩ := block4 k0
  obtain ⟨n0, n1, nf0, nf1, nl⟩ := block2 k1
  obtain ⟨⟨r0, r1, r2, r3⟩, ⟨g0, g1, g2, g3⟩, rl⟩ := block4 (new_block w (.cells #[.int .i64 tk, .int .i64 op, .int .i64 ob, .int .i64 vl] 41 (0, 0)))
  have HE := hide e0
  have hW1 : WatAt lo W0 P H A D l (n + 1) := by
    have hna := no_acc (l := l) (n := n) (by rw [ex]; exact hop3)
    refine hW0.congr ?_ hna.1.symm hna.2.1.symm hna.2.2.symm
    funext p
    show holdN l n p.1 p.2 = holdS p.1 p.2 (holdN l n p.1 p.2) _
    unfold holdS
    rw [ex, if_neg hop, if_neg hop2]
    split <;> rfl
  have HW1 := hide hW1
  have HX := hide (hB.mono hlo)
  have x1 : (op == 17) = false := by simpa using hop
  have x2 : (op == 18) = false := by simpa using hop2
  have HIA : Hid (∀ W, Calls Try.prog 47 #[.int .i64 op] W fun e w' => e = .returned (.bool false) ∧ w' = W) := fun W => by have := isAccess_any W op; rwa [hop3] at this
  clear e0 hw hW0 hB k0 k1 ex hlo hop hop2 hop3 hW1
  go_enter Try.func40, Try.ntmps40
  go_upto_region 2 with fail
  rw [unhide HE]
  clear HE r0 r1 r2 r3 g0 g1 g2 g3 rl
  go_wp2_with (go_at_call 47; (with_reducible refine Calls.mono (unhide HIA _) ?_); rintro e w1 ⟨rfl, rfl⟩)
  exact bodyPost_end (v := .tuple #[]) (by simp [results, Try.results40]) rfl ⟨rfl, unhide HW1, unhide HX⟩

set_option maxRecDepth 100000 in
set_option maxHeartbeats 4000000 in
theorem watAdd_acc (lo : Nat) (w : World) (P H A D : Nat) (l : List Ev) (n : Nat) (hw : WatAt lo w P H A D l n) (tk op ob vl : Int) (ex : l.getD n ev0 = ⟨tk, op, ob, vl⟩) (hobs : Objs l) (hn : n < l.length) (hn2 : n ≤ 100000) (hop3 : (op == 12 || op == 13) = true) :
    Calls Try.prog 40 #[.pointer (some ⟨P, 0, none⟩), .agg #[.int .i64 tk, .int .i64 op, .int .i64 ob, .int .i64 vl]] w fun e w' => e = .returned (.tuple #[]) ∧ WatAt lo w' P H A D l (n + 1) ∧ Below lo w w' := by
  have hlo : lo ≤ w.heap.size := Nat.le_trans hw.lp (Nat.le_of_lt (size_of hw.blk))
  obtain ⟨W0, e0, hB, k0, k1⟩ := two_new w (.cells #[.int .i64 tk, .int .i64 op, .int .i64 ob, .int .i64 vl] 41 (0, 0)) (.cells #[.int .i64 tk, .int .i64 ob] 92 (0, 0))
  have hW0 := hw.below hB
  obtain ⟨⟨p0, p1, p2, p3⟩, ⟨pf0, pf1, pf2, pf3⟩, pl_⟩ := block4 hW0.blk
  obtain ⟨⟨q0, q1, q2, q3⟩, ⟨f0, f1, f2, f3⟩, ql⟩ := block4 k0
  obtain ⟨n0, n1, nf0, nf1, nl⟩ := block2 k1
  obtain ⟨⟨r0, r1, r2, r3⟩, ⟨g0, g1, g2, g3⟩, rl⟩ := block4 (new_block w (.cells #[.int .i64 tk, .int .i64 op, .int .i64 ob, .int .i64 vl] 41 (0, 0)))
  have HE := hide e0
  have hop : op ≠ 17 := fun e => by rw [e] at hop3; cases hop3
  have hop2 : op ≠ 18 := fun e => by rw [e] at hop3; cases hop3
  have HAC := hide (watAccess_any lo W0 P H A D l n hW0 tk ob (by rw [ex]; exact hop3) (by rw [ex]) (by rw [ex]) hobs hn hn2 ⟨by rw [ex]; exact hop, by rw [ex]; exact hop2⟩)
  have HX := hide (hB.mono hlo)
  have HLO := hide (Nat.le_trans hlo hB.size)
  have x1 : (op == 17) = false := by simpa using hop
  have x2 : (op == 18) = false := by simpa using hop2
  have HIA : Hid (∀ W, Calls Try.prog 47 #[.int .i64 op] W fun e w' => e = .returned (.bool true) ∧ w' = W) := fun W => by have := isAccess_any W op; rwa [hop3] at this
  clear e0 hw hW0 hB k0 k1 ex hlo hop hop2 hop3 hobs hn hn2
  go_enter Try.func40, Try.ntmps40
  go_upto_region 2 with fail
  rw [unhide HE]
  clear HE r0 r1 r2 r3 g0 g1 g2 g3 rl
  go_wp2_with (first
    | (go_at_call 47; (with_reducible refine Calls.mono (unhide HIA _) ?_); rintro e w1 ⟨rfl, rfl⟩)
    | (go_at_call 49; (with_reducible refine Calls.mono (unhide HAC) ?_); rintro e w2 ⟨rfl, hw2, hb2⟩; have HW2 := hide hw2; have HB2 := hide hb2; clear hw2 hb2))
  exact bodyPost_end (v := .tuple #[]) (by simp [results, Try.results40]) rfl ⟨rfl, unhide HW2, (unhide HX).trans (unhide HB2)⟩

theorem watAdd_any (lo : Nat) (w : World) (P H A D : Nat) (l : List Ev) (n : Nat) (hw : WatAt lo w P H A D l n) (tk op ob vl : Int) (ex : l.getD n ev0 = ⟨tk, op, ob, vl⟩) (hobs : Objs l) (hn : n < l.length) (hn2 : n ≤ 100000) :
    Calls Try.prog 40 #[.pointer (some ⟨P, 0, none⟩), .agg #[.int .i64 tk, .int .i64 op, .int .i64 ob, .int .i64 vl]] w fun e w' => e = .returned (.tuple #[]) ∧ WatAt lo w' P H A D l (n + 1) ∧ Below lo w w' := by
  by_cases h1 : op = 17
  · exact watAdd_lock lo w P H A D l n hw tk op ob vl ex hn2 h1
  · by_cases h2 : op = 18
    · exact watAdd_unlock lo w P H A D l n hw tk op ob vl ex hn2 h2
    · cases h3 : (op == 12 || op == 13) with
      | true => exact watAdd_acc lo w P H A D l n hw tk op ob vl ex hobs hn hn2 h3
      | false => exact watAdd_else lo w P H A D l n hw tk op ob vl ex h1 h2 h3

/-- Is a lock held at all accesses of a cell, and is there one? -/
def guardB (l : List Ev) (n : Nat) (c : Int) (o : Nat) : Bool := decide (0 < heldN l n c (o : Int)) && heldN l n c (o : Int) == accN l n c
def guardsJ (l : List Ev) (n : Nat) (c : Int) (j : Nat) : List Int := ((List.range j).filter (guardB l n c)).map fun o => ((o : Nat) : Int)
theorem guardsJ_yes {l : List Ev} {n : Nat} {c : Int} {j : Nat} (h : guardB l n c j = true) : guardsJ l n c (j + 1) = guardsJ l n c j ++ [(j : Int)] := by
  unfold guardsJ
  rw [List.range_succ, List.filter_append, List.map_append]
  simp [h]
theorem guardsJ_no {l : List Ev} {n : Nat} {c : Int} {j : Nat} (h : guardB l n c j = false) : guardsJ l n c (j + 1) = guardsJ l n c j := by
  unfold guardsJ
  rw [List.range_succ, List.filter_append, List.map_append]
  simp [h]
theorem guardsJ_len (l : List Ev) (n : Nat) (c : Int) (j : Nat) : (guardsJ l n c j).length ≤ j := by
  unfold guardsJ
  rw [List.length_map]
  have := List.length_filter_le (guardB l n c) (List.range j)
  rwa [List.length_range] at this

set_option maxRecDepth 100000 in
set_option maxHeartbeats 4000000 in
theorem guards_any (lo : Nat) (w : World) (P H A D : Nat) (l : List Ev) (n : Nat) (hw : WatAt lo w P H A D l n) (c : Int) :
    Calls Try.prog 41 #[.pointer (some ⟨P, 0, none⟩), .int .i64 c] w fun e w' => ∃ a k, e = .returned (.slice a (guardsJ l n c 21).length k) ∧ Own KI w.heap.size w' (.slice a (guardsJ l n c 21).length k) (guardsJ l n c 21) ∧ Below w.heap.size w w' := by
  have HW := hide hw
  have HX := hide (Below.refl w.heap.size w)
  clear hw
  go_enter Try.func41, Try.ntmps41
  go_wp2_with fail
  go_loopw [5, 8] (fun s5 i wr => ∃ (j : Nat) (a : Option Addr) (r k : Nat), j ≤ 21 ∧ i = .int .i64 (j : Int) ∧ s5 = .slice a r k ∧ Hid ((guardsJ l n c j).length = r) ∧ Hid (Own KI w.heap.size wr (.slice a r k) (guardsJ l n c j)) ∧ Hid (Below w.heap.size w wr)) (fun _ i _ => 21 - (intOf i).toNat)
  case atStart => exact ⟨0, none, 0, 0, Nat.zero_le _, rfl, rfl, hide rfl, hide (own_nil _ _), HX⟩
  case round =>
    obtain ⟨j, a, r, k, hj, rfl, rfl, HRL, HOR, HBR⟩ := hrel
    clear HX
    by_cases hlt : j < 21
    · have i0 : (0 : Int) ≤ (j : Int) := by omega
      have i1 : (j : Int) < 21 := by omega
      have hw1 : IntKind.i64.wrap ((j : Int) + 1) = (j : Int) + 1 := wrapi (by omega) (by omega)
      have hWr := (unhide HW).below (unhide HBR)
      obtain ⟨⟨s0, s1, s2, s3⟩, -, sl⟩ := block4 hWr.blk
      obtain ⟨ksd, hd⟩ := hWr.d
      obtain ⟨ksa, ha1, ha2, ha3⟩ := hWr.a
      have hlk := g_look guard_two Try.underlying75 hd (c, (j : Int))
      have hlka := ms_look (t := 74) (e := 3) Try.underlying74 (z := .int .i64 0) (fun w => by kernel_rfl) wr A ksa (fun c => .int .i64 (accN l n c)) ha1 (fun c hc => by rw [ha3 c hc]) c
      obtain ⟨x, hx⟩ : ∃ X, heldF l n (c, (j : Int)) = X := ⟨_, rfl⟩
      obtain ⟨y, hy⟩ : ∃ X, accN l n c = X := ⟨_, rfl⟩
      have hgb : guardB l n c j = (decide (0 < x) && x == y) := by unfold guardB; rw [← hx, ← hy]; rfl
      have HGB := hide hgb
      rw [hx] at hlk
      rw [hy] at hlka
      unfold kv2 at hlk
      have hrj := guardsJ_len l n c j
      rw [unhide HRL] at hrj
      clear hWr hd ha1 ha2 ha3 hx hy hgb
      by_cases hx0 : 0 < x
      · by_cases hxy : x = y
        · subst hxy
          have HGJ := hide (guardsJ_yes (l := l) (n := n) (c := c) (j := j) (by rw [unhide HGB]; simp [hx0]))
          have xx : (x == x) = true := by simp
          have HOP := hide ((unhide HOR).below ((Below.refl wr.heap.size wr).alloc (Nat.le_refl _) (.cells #[.int .i64 (j : Int)] 3)))
          have HBP := hide ((unhide HBR).alloc (unhide HBR).size (.cells #[.int .i64 (j : Int)] 3))
          have HIP := hide (isl_one ki wr (j : Int))
          go_upto_region 8 with (at_builtin; refine wpList_append ki rfl (.tmp 31) (.tmp 33) rfl w.heap.size _ (guardsJ l n c j) rfl (unhide HOP) _ [(j : Int)] rfl (unhide HIP) (r + 1) (by rw [unhide HRL]; rfl) (by show (r + 1) * 8 ≤ 140737488355328; omega) (unhide HBP).size ?_; intro a7 k7 w7 ho7 hg7; have HO7 := hide ho7; have HB7 := hide ((unhide HBP).grown hg7 (unhide HBP).size (fun k hk => ((unhide HOP).lt k hk).1)); clear ho7 hg7)
          clear s0 s1 s2 s3 sl hlk hlka
          go_wp2_with fail
          go_roundw
          case rel => exact ⟨j + 1, a7, r + 1, k7, by omega, by go_num, rfl, hide (by rw [unhide HGJ, List.length_append, unhide HRL]; rfl), hide (by rw [unhide HGJ]; exact unhide HO7), HB7⟩
          case measure => simp [intOf]; omega
        · have HGJ := hide (guardsJ_no (l := l) (n := n) (c := c) (j := j) (by rw [unhide HGB]; simp [hxy]))
          have xx : (x == y) = false := by simpa using hxy
          clear hxy
          go_wp2_with fail
          go_roundw
          case rel => exact ⟨j + 1, a, r, k, by omega, by go_num, rfl, hide (by rw [unhide HGJ]; exact unhide HRL), hide (by rw [unhide HGJ]; exact unhide HOR), HBR⟩
          case measure => simp [intOf]; omega
      · have HGJ := hide (guardsJ_no (l := l) (n := n) (c := c) (j := j) (by rw [unhide HGB]; simp [hx0]))
        go_wp2_with fail
        go_roundw
        case rel => exact ⟨j + 1, a, r, k, by omega, by go_num, rfl, hide (by rw [unhide HGJ]; exact unhide HRL), hide (by rw [unhide HGJ]; exact unhide HOR), HBR⟩
        case measure => simp [intOf]; omega
    · obtain rfl : j = 21 := by omega
      have i1 : ¬ ((21 : Nat) : Int) < 21 := by omega
      have hrr := unhide HRL
      go_wp2_with fail
      go_ret
      exact ⟨a, k, rfl, unhide HOR, unhide HBR⟩
end Go.Proofs.Ytbnmeeabpjmcoaa
