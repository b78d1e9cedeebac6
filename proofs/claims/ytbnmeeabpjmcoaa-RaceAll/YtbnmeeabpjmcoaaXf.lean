/-
  race.All: all races.
-/
import Derived.Test.YtbnmeeabpjmcoaaXe
namespace Go.Proofs.Ytbnmeeabpjmcoaa
open Go.RowKit

/-- Pairs of numbers. -/
def KP : Kind (Int × Int) := ⟨fun p => [.int .i64 p.1, .int .i64 p.2], 2, 55, 49, 16, (0, 0)⟩
theorem Try.infoKP : (Try.prog.info? 55).map (fun i => (i.zero.map (fun z => z.cells.size), i.size, i.bytes)) = some (some 2, 2, 16) := by kernel_rfl
theorem kp : KP.Ok := by
  refine ⟨fun c => rfl, fun c u hu => ?_, by decide, by decide, Try.underlying49, info_of Try.infoKP⟩
  simp [KP] at hu
  rcases hu with rfl | rfl <;> rfl
def pairsAt (hs : List Int) (l : List Ev) (k : Nat) : List (Int × Int) := (racing hs l k).map fun a => (((a.pl : Nat) : Int), (k : Int))
def pairsL (hs : List Int) (l : List Ev) (n : Nat) : List (Int × Int) := (List.range n).flatMap (pairsAt hs l)
theorem pairsL_succ (hs : List Int) (l : List Ev) (n : Nat) : pairsL hs l (n + 1) = pairsL hs l n ++ pairsAt hs l n := by
  unfold pairsL
  rw [List.range_succ, List.flatMap_append]
  simp
theorem pairsL_mono (hs : List Int) (l : List Ev) {i n : Nat} (h : i ≤ n) : (pairsL hs l i).length ≤ (pairsL hs l n).length := by
  induction n with
  | zero => obtain rfl : i = 0 := by omega
            exact Nat.le_refl _
  | succ n ih =>
    by_cases e : i = n + 1
    · rw [e]; exact Nat.le_refl _
    · rw [pairsL_succ, List.length_append]
      exact Nat.le_trans (ih (by omega)) (Nat.le_add_right _ _)
theorem take_pair (q : List (Int × Int)) {x : Nat} (h : x < q.length) : q.take (x + 1) = q.take x ++ [q.getD x (0, 0)] := by
  rw [List.take_add_one, List.getElem?_eq_getElem h]
  simp [List.getElem?_eq_getElem h]
theorem pairsAt_get (hs : List Int) (l : List Ev) (k : Nat) {x : Nat} (h : x < (racing hs l k).length) : (pairsAt hs l k).getD x (0, 0) = (((racing hs l k).map fun a => ((a.pl : Nat) : Int)).getD x 0, (k : Int)) := by
  unfold pairsAt
  rw [List.getD_eq_getElem?_getD, List.getD_eq_getElem?_getD, List.getElem?_map, List.getElem?_map, List.getElem?_eq_getElem h]
  rfl
/-- What All answers of a trace of which nothing is wrong. -/
def AllIs (hs : List Int) (l : List Ev) (w' : World) (e : Ending) : Prop :=
  if 5000 < (pairsL hs l l.length).length then e = .returned (.tuple #[.slice none 0 0, .agg #[.int .i64 9, .int .i64 0]])
  else ∃ a c, e = .returned (.tuple #[.slice a (pairsL hs l l.length).length c, .agg #[.int .i64 0, .int .i64 0]]) ∧ IsL KP w' (.slice a (pairsL hs l l.length).length c) (pairsL hs l l.length)
theorem Own.by_type {α β : Type} {K : Kind α} {L : Kind β} {base base' : Nat} {w w' : World} {v v' : Value} {xs : List α} {ys : List β} (h : Own K base w v xs) (h' : Own L base' w v' ys) (ht : L.e ≠ K.e) (hg : w.grownBy w' v'.ownBlock) : Own K base w' v xs := h.keep fun k hk => by
  obtain ⟨_, _, _, _, hb⟩ := hg
  have hlt := (h.lt k hk).2
  refine hb k hlt ?_
  obtain ⟨_, ⟨rfl, _⟩ | ⟨g, cap, cur, rfl, hg2, hh, _⟩⟩ := h
  · cases hk
  · cases hk
    cases e : v'.ownBlock with
    | none => simp
    | some j =>
      have := Own.ne h' hh (Ne.symm ht) j e
      simp
      omega
theorem SeenAt.beside {α : Type} {K : Kind α} {lo base : Nat} {w w' : World} {S B : Nat} {cv : Value} {ks : List Int} {sv : Int → Value} {l : List Ev} {n : Nat} {v : Value} {xs : List α} (h : SeenAt lo w S B cv ks sv l n) (ho : Own K base w v xs) (h1 : K.e ≠ 88) (h2 : K.e ≠ 86) (hg : w.grownBy w' v.ownBlock) : SeenAt lo w' S B cv ks sv l n :=
  ⟨keep_grown h.blk hg (fun j hj => Own.ne ho h.blk (Ne.symm h2) j hj), keep_grown h.map hg (fun j hj => ho.neM h.map j hj), h.nd, h.zero, fun c => (h.rows c).by_type ho h1 hg, h.apart, h.lb⟩
theorem Own.kta {α : Type} {K : Kind α} {base : Nat} {w w' : World} {v : Value} {xs : List α} (h : Own K base w v xs) (hk : KtA w w') (ht : K.e ≠ 88) : Own K base w' v xs := h.keep fun k hk2 => by
  obtain ⟨_, ⟨rfl, _⟩ | ⟨g, cap, cur, rfl, hg2, hh, _⟩⟩ := h
  · cases hk2
  · cases hk2
    exact (hk _ _ _ _ hh ht).trans hh.symm

set_option maxRecDepth 100000 in
set_option maxHeartbeats 4000000 in
theorem all_fault (w : World) (a0 : Option Addr) (n0 c0 : Nat) (a1 : Option Addr) (n1 c1 : Nat) (l : List Ev) (hs : List Int) (hl : IsL KE w (.slice a0 n0 c0) l) (hh : IsL KI w (.slice a1 n1 c1) hs) (fc fa : Int) (hf : checkF hs l = (fc, fa)) (hfc : fc ≠ 0) :
    Calls Try.prog 23 #[.slice a0 n0 c0, .slice a1 n1 c1] w fun e w' => e = .returned (.tuple #[.slice none 0 0, .agg #[.int .i64 fc, .int .i64 fa]]) ∧ Below w.heap.size w w' := by
  have HCF : Hid (∀ W, Below w.heap.size w W → Calls Try.prog 13 #[.slice a0 n0 c0, .slice a1 n1 c1] W fun e w' => e = .returned (.tuple #[.slice none 0 0, .agg #[.int .i64 fc, .int .i64 fa]]) ∧ Below W.heap.size W w') := fun W hW => clocks_faulty W a0 n0 c0 a1 n1 c1 l hs (hl.below hW) (hh.below hW) fc fa hf hfc
  have x1 : (fc == 0) = false := by simpa using hfc
  have x2 : (fc != 0) = true := by simpa using hfc
  have HX := hide ((Below.refl w.heap.size w).alloc (Nat.le_refl _) (.cells #[.int .i64 0, .int .i64 0] 28 (0, 0)))
  have HQ := hide (new_block w (.cells #[.int .i64 0, .int .i64 0] 28 (0, 0)))
  obtain ⟨W0, e0⟩ : ∃ X, w.alloc (.cells #[.int .i64 0, .int .i64 0] 28 (0, 0)) = X := ⟨_, rfl⟩
  rw [e0] at HX HQ
  have HE := hide e0
  clear e0 hl hh hf hfc
  go_enter Try.func23, Try.ntmps23
  go_upto_region 1 with fail
  rw [unhide HE]
  clear HE
  go_upto_region 2 with (go_at_call 13; (with_reducible refine Calls.mono (unhide HCF _ (unhide HX)) ?_); rintro e w1 ⟨rfl, hb1⟩; have HX1 := hide (Below.next (unhide HX) hb1 (Nat.le_refl _)); have HQ1 := hide (keep_below (unhide HQ) hb1); clear hb1)
  have HX2 := hide ((unhide HX1).alloc (unhide HX1).size (.cells #[.int .i64 fc, .int .i64 fa] 28 (0, 0))); have HQ2 := hide (keep_alloc (unhide HQ1) (.cells #[.int .i64 fc, .int .i64 fa] 28 (0, 0))); have HF2 := hide (new_block w1 (.cells #[.int .i64 fc, .int .i64 fa] 28 (0, 0)))
  have hFl : w.heap.size < w1.heap.size := size_of (unhide HQ1)
  obtain ⟨F, eF⟩ : ∃ X, w1.heap.size = X := ⟨_, rfl⟩
  obtain ⟨W2, e2⟩ : ∃ X, w1.alloc (.cells #[.int .i64 fc, .int .i64 fa] 28 (0, 0)) = X := ⟨_, rfl⟩
  rw [eF, e2] at HF2; rw [e2] at HX2 HQ2; rw [eF] at hFl; rw [eF, e2]
  clear eF e2 HX HQ HX1 HQ1 HCF
  obtain ⟨g0, g1, gf0, gf1, gl⟩ := block2 (unhide HF2)
  obtain ⟨q0, q1, f0, f1, ql⟩ := block2 (unhide HQ2)
  go_upto_region 3 with fail
  go_region
  all_goals
    go_wp2_with fail
    exact bodyPost_ret (v := .tuple #[.slice none 0 0, .agg #[.int .i64 fc, .int .i64 fa]]) (by simp [results, Try.results23, go_sem, q0, q1]) rfl ⟨rfl, by first | exact (below_set2 (unhide HX2) (Nat.le_refl _) _ _).drew | exact below_set2 (unhide HX2).drew (Nat.le_refl _) _ _⟩

set_option maxRecDepth 100000 in
set_option maxHeartbeats 4000000 in
theorem all_good (w : World) (a0 : Option Addr) (n0 c0 : Nat) (a1 : Option Addr) (n1 c1 : Nat) (l : List Ev) (hs : List Int) (hl : IsL KE w (.slice a0 n0 c0) l) (hh : IsL KI w (.slice a1 n1 c1) hs) (hg : GoodT hs l) :
    Calls Try.prog 23 #[.slice a0 n0 c0, .slice a1 n1 c1] w fun e w' => AllIs hs l w' e ∧ Below w.heap.size w w' := by
  have hln := hl.len
  have hn : n0 ≤ 2000 := by have := hg.n; omega
  obtain ⟨m, hm⟩ : ∃ m : Nat, lastL l = (m : Int) := ⟨(lastL l).toNat, by have := (hg.last l.length (Nat.le_refl _)).1; rw [List.take_length] at this; omega⟩
  have HCF : Hid (∀ W, Below w.heap.size w W → Calls Try.prog 13 #[.slice a0 n0 c0, .slice a1 n1 c1] W fun e w' => ∃ G, e = .returned (.tuple #[.slice (some ⟨G, 0, none⟩) n0 n0, .agg #[.int .i64 0, .int .i64 0]]) ∧ Rows2 (W.heap.size + 1) w' G n0 (rowL hs l m) m n0 ∧ W.heap.size + 1 ≤ G ∧ Below W.heap.size W w') := fun W hW => clocks_good W a0 n0 c0 a1 n1 c1 l hs (hl.below hW) (hh.below hW) hg m hm
  have HX := hide ((Below.refl w.heap.size w).alloc (Nat.le_refl _) (.cells #[.int .i64 0, .int .i64 0] 28 (0, 0)))
  have HQ := hide (new_block w (.cells #[.int .i64 0, .int .i64 0] 28 (0, 0)))
  obtain ⟨W0, e0⟩ : ∃ X, w.alloc (.cells #[.int .i64 0, .int .i64 0] 28 (0, 0)) = X := ⟨_, rfl⟩
  rw [e0] at HX HQ
  have HE := hide e0
  have HG := hide hg; have HM := hide hm; have HLN := hide hln
  have HTR := hide (hl.opens ke hln)
  clear e0 hl hh hg hm hln
  go_enter Try.func23, Try.ntmps23
  go_upto_region 1 with fail
  rw [unhide HE]
  clear HE
  go_upto_region 2 with (go_at_call 13; (with_reducible refine Calls.mono (unhide HCF _ (unhide HX)) ?_); rintro e w1 ⟨G, rfl, hr1, hg1, hb1⟩; have HX1 := hide (Below.next (unhide HX) hb1 (Nat.le_refl _)); have HQ1 := hide (keep_below (unhide HQ) hb1); have HR1 := hide hr1; clear hb1 hr1 hg1)
  have HX2 := hide ((unhide HX1).alloc (unhide HX1).size (.cells #[.int .i64 0, .int .i64 0] 28 (0, 0))); have HQ2 := hide (keep_alloc (unhide HQ1) (.cells #[.int .i64 0, .int .i64 0] 28 (0, 0))); have HF2 := hide (new_block w1 (.cells #[.int .i64 0, .int .i64 0] 28 (0, 0))); have HR2 := hide ((unhide HR1).below ((Below.refl _ _).alloc (Nat.le_refl _) (.cells #[.int .i64 0, .int .i64 0] 28 (0, 0))))
  obtain ⟨F, eF⟩ : ∃ X, w1.heap.size = X := ⟨_, rfl⟩
  obtain ⟨W2, e2⟩ : ∃ X, w1.alloc (.cells #[.int .i64 0, .int .i64 0] 28 (0, 0)) = X := ⟨_, rfl⟩
  rw [eF, e2] at HF2; rw [e2] at HX2 HQ2 HR2; rw [eF, e2]
  clear eF e2 HX HQ HX1 HQ1 HCF HR1
  obtain ⟨g0, g1, gf0, gf1, gl⟩ := block2 (unhide HF2)
  go_upto_region 5 with (go_at_call 37; (with_reducible refine Calls.mono (newSeen_any W2 _ n0 n0 l) ?_); rintro e w3 ⟨S, B, rfl, hs3, hl3, hb3⟩; have HS3 := hide hs3; have HB3 := hide hb3; clear hs3 hl3 hb3 g0 g1 gf0 gf1 gl)
  go_wp2_with fail
  go_loopw [9, 28] (fun s9 i wr => ∃ (j : Nat) (ks : List Int) (sv : Int → Value) (a : Option Addr) (r c : Nat), j ≤ n0 ∧ i = .int .i64 (j : Int) ∧ s9 = .slice a r c ∧ r ≤ 5000 ∧ Hid ((pairsL hs l j).length = r) ∧ Hid (Own KP W2.heap.size wr (.slice a r c) (pairsL hs l j)) ∧ Hid (SeenAt W2.heap.size wr S B (.slice (some ⟨G, 0, none⟩) n0 n0) ks sv l j) ∧ Hid (Below W2.heap.size W2 wr)) (fun _ i _ => n0 - (intOf i).toNat)
  case atStart => exact ⟨0, [], _, none, 0, 0, Nat.zero_le _, rfl, rfl, Nat.zero_le _, hide rfl, hide (own_nil _ _), HS3, HB3⟩
  case round =>
    obtain ⟨j, ks, sv, a, r, c, hj, rfl, rfl, hr, HRL, HOR, HSj, HBj⟩ := hrel
    clear HS3 HB3
    by_cases hlt : j < n0
    · have HLT := hide hlt
      have i0 : (0 : Int) ≤ (j : Int) := by omega
      have i1 : (j : Int) < (n0 : Int) := by omega
      have hw1 : IntKind.i64.wrap ((j : Int) + 1) = (j : Int) + 1 := wrapi (by omega) (by omega)
      have hbw : Below w.heap.size w wr := (unhide HX2).trans ((unhide HBj).mono (unhide HX2).size)
      obtain ⟨tb, tof, rfl, htb, hli⟩ := unhide HTR (by omega)
      obtain ⟨⟨tk, op, ob, vl⟩, ex⟩ : ∃ X, l.getD j ev0 = X := ⟨_, rfl⟩
      obtain ⟨v0, v1, v2, v3⟩ := (hli.below hbw htb).ev (j := j) (by rw [unhide HLN]; exact hlt) ex
      have HEX := hide ex
      have hS4 := (unhide HSj).below ((Below.refl wr.heap.size wr).alloc (Nat.le_refl _) (.cells #[.int .i64 tk, .int .i64 op, .int .i64 ob, .int .i64 vl] 41 (0, 0)))
      have hb4 := (unhide HBj).alloc (unhide HBj).size (.cells #[.int .i64 tk, .int .i64 op, .int .i64 ob, .int .i64 vl] 41 (0, 0))
      have HV4 := hide (new_block wr (.cells #[.int .i64 tk, .int .i64 op, .int .i64 ob, .int .i64 vl] 41 (0, 0)))
      obtain ⟨V, eV⟩ : ∃ X, wr.heap.size = X := ⟨_, rfl⟩
      obtain ⟨W4, e4⟩ : ∃ X, wr.alloc (.cells #[.int .i64 tk, .int .i64 op, .int .i64 ob, .int .i64 vl] 41 (0, 0)) = X := ⟨_, rfl⟩
      rw [e4] at hS4 hb4; rw [eV, e4] at HV4
      have HB4 := hide hb4
      have HADD := hide (seenAdd_any W2 W4 S B _ G n0 m ks sv l hs j hS4 (unhide HR2) hb4 (unhide HG) (unhide HLN) (unhide HM) hlt tk op ob vl ex)
      have HQ4 := hide (keep_below (unhide HQ2) hb4)
      clear hli ex hS4 hb4 hbw
      have HOR4 : Hid (Own KP W2.heap.size W4 (.slice a r c) (pairsL hs l j)) := hide (by rw [← e4]; exact (unhide HOR).below ((Below.refl wr.heap.size wr).alloc (Nat.le_refl _) (.cells #[.int .i64 tk, .int .i64 op, .int .i64 ob, .int .i64 vl] 41 (0, 0))))
      go_upto_region 9 with fail
      try rw [eV, e4]
      clear eV e4 v0 v1 v2 v3 HOR HSj HBj
      obtain ⟨⟨v0, v1, v2, v3⟩, -, vl_⟩ := block4 (unhide HV4)
      obtain ⟨N, hN⟩ : ∃ X, (racing hs l j).length = X := ⟨_, rfl⟩
      have HNN := hide hN
      have hNle : N ≤ 2000 := by
        rw [← hN]
        unfold racing
        split
        · have := List.length_filter_le (fun a => raceA hs l a (accOf l j)) (accL l j (l.getD j ev0).obj)
          have := accL_len l j (l.getD j ev0).obj
          omega
        · simp
      rw [hN] at HADD
      clear hN
      go_wp2_with (go_at_call 38; (with_reducible refine Calls.mono (unhide HADD) ?_); rintro e w5 ⟨a5, c5, ks5, sv5, rfl, ho5, hs5, hb5, hk5⟩; have HS5 := hide hs5; have HB5 := hide hb5; have HO5 := hide (ho5.base (unhide HB4).size); have HP5 := hide ((unhide HOR4).kta hk5 (by decide)); clear hs5 hb5 ho5 hk5)
      go_loopw [9, 38] (fun s9 i wi => ∃ (x : Nat) (a6 : Option Addr) (r6 c6 : Nat), x ≤ N ∧ i = .int .i64 (x : Int) ∧ s9 = .slice a6 r6 c6 ∧ r6 ≤ 5000 + x ∧ Hid ((pairsL hs l j ++ (pairsAt hs l j).take x).length = r6) ∧ Hid (Own KP W2.heap.size wi (.slice a6 r6 c6) (pairsL hs l j ++ (pairsAt hs l j).take x)) ∧ Hid (SeenAt W2.heap.size wi S B (.slice (some ⟨G, 0, none⟩) n0 n0) ks5 sv5 l (j + 1)) ∧ Hid (Own KI W2.heap.size wi (.slice a5 N c5) ((racing hs l j).map fun a => ((a.pl : Nat) : Int))) ∧ Hid (Below W2.heap.size W2 wi)) (fun _ i _ => N - (intOf i).toNat)
      case atStart => exact ⟨0, a, r, c, Nat.zero_le _, rfl, rfl, by omega, hide (by rw [List.take_zero, List.append_nil]; exact unhide HRL), hide (by rw [List.take_zero, List.append_nil]; exact unhide HP5), HS5, HO5, HB5⟩
      case round =>
        obtain ⟨x, a6, r6, c6, hx, rfl, rfl, hr6, HRL6, HOR6, HSx, HOx, HBx⟩ := hrel
        clear HS5 HO5 HB5 HP5
        by_cases hlx : x < N
        · have p0 : (0 : Int) ≤ (x : Int) := by omega
          have p1 : (x : Int) < (N : Int) := by omega
          have hw2 : IntKind.i64.wrap ((x : Int) + 1) = (x : Int) + 1 := wrapi (by omega) (by omega)
          obtain ⟨b9, o9, e9, hb9, l9⟩ := (unhide HOx).isl.opens ki (by rw [List.length_map]; exact unhide HNN) (by omega)
          subst e9
          have h9 := l9.ints (j := x) (by rw [List.length_map, unhide HNN]; exact hlx)
          obtain ⟨y, hy⟩ : ∃ X, ((racing hs l j).map fun a => ((a.pl : Nat) : Int)).getD x 0 = X := ⟨_, rfl⟩
          rw [hy] at h9
          have HNX := hide (show (pairsAt hs l j).take (x + 1) = (pairsAt hs l j).take x ++ [(y, (j : Int))] by
            rw [take_pair _ (by unfold pairsAt; rw [List.length_map, unhide HNN]; exact hlx), pairsAt_get hs l j (by rw [unhide HNN]; exact hlx), hy])
          have HOP := hide ((unhide HOR6).below ((Below.refl wr.heap.size wr).alloc (Nat.le_refl _) (.cells #[.int .i64 y, .int .i64 (j : Int)] 55)))
          have HSP := hide ((unhide HSx).below ((Below.refl wr.heap.size wr).alloc (Nat.le_refl _) (.cells #[.int .i64 y, .int .i64 (j : Int)] 55)))
          have HOQ := hide ((unhide HOx).below ((Below.refl wr.heap.size wr).alloc (Nat.le_refl _) (.cells #[.int .i64 y, .int .i64 (j : Int)] 55)))
          have HBP := hide ((unhide HBx).alloc (unhide HBx).size (.cells #[.int .i64 y, .int .i64 (j : Int)] 55))
          have HIP := hide (isl_one kp wr (y, (j : Int)))
          clear hy l9 v0 v1 v2 v3
          go_upto_region 13 with (at_builtin; refine wpList_append kp rfl (.tmp 42) (.tmp 46) rfl W2.heap.size _ (pairsL hs l j ++ (pairsAt hs l j).take x) rfl (unhide HOP) _ [(y, (j : Int))] rfl (unhide HIP) (r6 + 1) (by rw [unhide HRL6]; rfl) (by show (r6 + 1) * 16 ≤ 140737488355328; omega) (unhide HBP).size ?_; intro a7 c7 w7 ho7 hg7; have HO7 := hide ho7; have HB7 := hide ((unhide HBP).grown hg7 (unhide HBP).size (fun k hk => ((unhide HOP).lt k hk).1)); have HS7 := hide ((unhide HSP).beside (unhide HOP) (by decide) (by decide) hg7); have HI7 := hide ((unhide HOQ).by_type (unhide HOP) (by decide) hg7); clear ho7 hg7)
          clear h9
          go_wp2_with fail
          go_roundw
          case rel => exact ⟨x + 1, a7, r6 + 1, c7, by omega, by go_num, rfl, by omega, hide (by rw [unhide HNX, ← List.append_assoc, List.length_append, unhide HRL6]; rfl), hide (by rw [unhide HNX, ← List.append_assoc]; exact unhide HO7), HS7, HI7, HB7⟩
          case measure => simp [intOf]; omega
        · obtain rfl : x = N := by omega
          have p1 : ¬ (x : Int) < (x : Int) := by omega
          have HPS := hide (show pairsL hs l j ++ (pairsAt hs l j).take x = pairsL hs l (j + 1) by
            rw [pairsL_succ, List.take_of_length_le (by unfold pairsAt; rw [List.length_map, unhide HNN]; exact Nat.le_refl _)])
          by_cases hbig : 5000 < r6
          · have p2 : (5000 : Int) < (r6 : Int) := by omega
            have HLG : Hid (5000 < (pairsL hs l l.length).length) := by
              have h1 := pairsL_mono hs l (show j + 1 ≤ l.length by rw [unhide HLN]; exact unhide HLT)
              have h2 := unhide HRL6
              rw [unhide HPS] at h2
              show _ < _
              omega
            have HQ5 := hide (keep_below (unhide HQ2) (unhide HBx))
            obtain ⟨q0, q1, f0, f1, ql⟩ := block2 (unhide HQ5)
            clear v0 v1 v2 v3
            go_wp2_with fail
            exact bodyPost_ret (v := .tuple #[.slice none 0 0, .agg #[.int .i64 9, .int .i64 0]]) (by simp [results, Try.results23, go_sem, q0, q1]) rfl ⟨by unfold AllIs; rw [if_pos (unhide HLG)], by
              have h0 := (unhide HX2).trans ((unhide HBx).mono (unhide HX2).size)
              first | exact below_set2 h0 (Nat.le_refl _) _ _ | exact (below_set2 h0 (Nat.le_refl _) _ _).drew⟩
          · have p2 : ¬ (5000 : Int) < (r6 : Int) := by omega
            clear v0 v1 v2 v3
            go_wp2_with fail
            go_roundw
            case rel => exact ⟨j + 1, ks5, sv5, a6, r6, c6, by omega, by go_num, rfl, by omega, hide (by rw [← unhide HPS]; exact unhide HRL6), hide (by rw [← unhide HPS]; exact unhide HOR6), HSx, HBx⟩
            case measure => simp [intOf]; omega
    · obtain rfl : j = n0 := by omega
      have i1 : ¬ (j : Int) < (j : Int) := by omega
      have HQ5 := hide (keep_below (unhide HQ2) (unhide HBj))
      obtain ⟨q0, q1, f0, f1, ql⟩ := block2 (unhide HQ5)
      go_wp2_with fail
      have hlen : (pairsL hs l l.length).length = r := by rw [unhide HLN]; exact unhide HRL
      exact bodyPost_ret (v := .tuple #[.slice a r c, .agg #[.int .i64 0, .int .i64 0]]) (by simp [results, Try.results23, go_sem, q0, q1]) rfl ⟨by
          unfold AllIs
          rw [if_neg (by rw [hlen]; omega), hlen]
          refine ⟨a, c, rfl, ?_⟩
          rw [unhide HLN]
          exact ((unhide HOR).keep fun k hk => by
            have h1 := ((unhide HOR).lt k hk).1
            have h2 := size_of (unhide HQ2)
            repeat (first | rfl | rw [Below.heap_setCell _ _ _ _ (by simp; omega)])).isl, by
          have h0 := (unhide HX2).trans ((unhide HBj).mono (unhide HX2).size)
          first | exact below_set2 h0 (Nat.le_refl _) _ _ | exact (below_set2 h0 (Nat.le_refl _) _ _).drew⟩
end Go.Proofs.Ytbnmeeabpjmcoaa
