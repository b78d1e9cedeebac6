/-
  Traces as lists; order.within, isOfPipe, wrong, Check.
-/
import Derived.Test.YtbnmeeabpjmcoaaQ
namespace Go.Proofs.Ytbnmeeabpjmcoaa
open Go.RowKit

def KE : Kind Ev := ⟨fun e => [.int .i64 e.task, .int .i64 e.op, .int .i64 e.obj, .int .i64 e.val], 4, 41, 22, 32, ev0⟩
theorem Try.infoKE : (Try.prog.info? 41).map (fun i => (i.zero.map (fun z => z.cells.size), i.size, i.bytes)) = some (some 4, 4, 32) := by kernel_rfl
theorem ke : KE.Ok := by
  refine ⟨fun _ => rfl, fun e u hu => ?_, by decide, by decide, Try.underlying22, info_of Try.infoKE⟩
  simp only [KE, List.mem_cons, List.not_mem_nil, or_false] at hu
  rcases hu with rfl | rfl | rfl | rfl <;> rfl
theorem Lies.ev {w : World} {b off : Nat} {l : List Ev} (h : Lies KE w b off l) {j : Nat} (hj : j < l.length) {tk op ob vl : Int} (he : l.getD j ev0 = ⟨tk, op, ob, vl⟩) : w.cell? ⟨b, off + j * 4, none⟩ = some (.int .i64 tk) ∧ w.cell? ⟨b, off + j * 4 + 1, none⟩ = some (.int .i64 op) ∧ w.cell? ⟨b, off + j * 4 + 2, none⟩ = some (.int .i64 ob) ∧ w.cell? ⟨b, off + j * 4 + 3, none⟩ = some (.int .i64 vl) := by
  refine ⟨h j 0 _ hj ?_, h j 1 _ hj ?_, h j 2 _ hj ?_, h j 3 _ hj ?_⟩ <;> (show (KE.f (l.getD j ev0))[_]? = _; rw [he]; rfl)
theorem drop_at {α : Type} {l : List α} {j : Nat} {d : α} (h : j < l.length) : l.drop j = l.getD j d :: l.drop (j + 1) := by
  rw [List.drop_eq_getElem_cons h]
  simp [List.getElem?_eq_getElem h]
def ofPipe (op : Int) : Bool := decide (op = 14) || decide (op = 15) || decide (op = 16)
def wrongC (np : Int) (e : Ev) : Int :=
  if ¬ (1 ≤ e.task ∧ e.task ≤ 64) then 3 else if ¬ (8 ≤ e.op ∧ e.op ≤ 22) then 4 else if ¬ (0 ≤ e.obj ∧ e.obj ≤ 20) then 5 else if ofPipe e.op = true ∧ np ≤ e.obj then 5 else if e.op = 11 ∧ ¬ (1 ≤ e.val ∧ e.val ≤ 64) then 5 else 0
def holdC (x : Int) : Int := if 0 ≤ x ∧ x ≤ 100 then 0 else 8
def firstF {α : Type} (f : α → Int) : List α → Int → Int × Int
  | [], _ => (0, 0)
  | x :: r, i => if f x ≠ 0 then (f x, i) else firstF f r (i + 1)
theorem firstF_stop {α : Type} {f : α → Int} {x : α} {r : List α} {i d : Int} (h : f x = d) (hd : d ≠ 0) : firstF f (x :: r) i = (d, i) := by rw [firstF, h, if_pos hd]
theorem firstF_go {α : Type} {f : α → Int} {x : α} {r : List α} {i : Int} (h : f x = 0) : firstF f (x :: r) i = firstF f r (i + 1) := by rw [firstF, if_neg (by rw [h]; simp)]
/-- What is wrong with a trace. -/
def checkF (hs : List Int) (l : List Ev) : Int × Int := if 2000 < l.length ∨ 20 < hs.length then (2, 0) else if (firstF holdC hs 0).1 ≠ 0 then firstF holdC hs 0 else firstF (wrongC (hs.length : Int)) l 0

set_option maxRecDepth 100000 in
set_option maxHeartbeats 2000000 in
theorem within_any (w : World) (n lo hi : Int) :
    Calls Try.prog 31 #[.int .i64 n, .int .i64 lo, .int .i64 hi] w fun e w' => e = .returned (.bool (decide (lo ≤ n ∧ n ≤ hi))) ∧ w' = w := by
  by_cases h1 : lo ≤ n
  · by_cases h2 : n ≤ hi
    · rw [decide_eq_true ⟨h1, h2⟩]
      go_enter Try.func31, Try.ntmps31
      go_wp2
      go_ret
      exact ⟨rfl, rfl⟩
    · rw [decide_eq_false (fun h => h2 h.2)]
      go_enter Try.func31, Try.ntmps31
      go_wp2
      go_ret
      exact ⟨rfl, rfl⟩
  · rw [decide_eq_false (fun h => h1 h.1)]
    go_enter Try.func31, Try.ntmps31
    go_wp2
    go_ret
    exact ⟨rfl, rfl⟩
set_option maxRecDepth 100000 in
set_option maxHeartbeats 2000000 in
theorem isOfPipe_any (w : World) (op : Int) :
    Calls Try.prog 42 #[.int .i64 op] w fun e w' => e = .returned (.bool (ofPipe op)) ∧ w' = w := by
  unfold ofPipe
  by_cases h1 : op = 14
  · subst h1
    go_enter Try.func42, Try.ntmps42
    go_wp2
    go_ret
    exact ⟨rfl, rfl⟩
  · by_cases h2 : op = 15
    · subst h2
      go_enter Try.func42, Try.ntmps42
      go_wp2
      go_ret
      exact ⟨rfl, rfl⟩
    · by_cases h3 : op = 16
      · subst h3
        go_enter Try.func42, Try.ntmps42
        go_wp2
        go_ret
        exact ⟨rfl, rfl⟩
      · have e1 : (op == 14) = false := by simpa using h1
        have e2 : (op == 15) = false := by simpa using h2
        have e3 : (op == 16) = false := by simpa using h3
        rw [decide_eq_false h1, decide_eq_false h2, decide_eq_false h3]
        clear h1 h2 h3
        go_enter Try.func42, Try.ntmps42
        go_wp2
        go_ret
        exact ⟨rfl, rfl⟩

set_option maxRecDepth 100000 in
set_option maxHeartbeats 2000000 in
theorem wrong1 (w : World) (tk op ob vl np : Int) (h1 : decide (1 ≤ tk ∧ tk ≤ 64) = false) :
    Calls Try.prog 32 #[.agg #[.int .i64 tk, .int .i64 op, .int .i64 ob, .int .i64 vl], .int .i64 np] w fun e w' => e = .returned (.int .i64 3) ∧ Below w.heap.size w w' := by
  obtain ⟨W, eW, hB, hE, hSz⟩ := new_two w (evB ⟨tk, op, ob, vl⟩)
  obtain ⟨x0, x1, x2, x3⟩ := ev_cells hE
  have HB := hide hB
  have HE := hide eW
  clear eW hB hE hSz
  go_enter Try.func32, Try.ntmps32
  go_upto_region 1 with fail
  unfold evB at HE
  rw [unhide HE]
  clear HE
  go_wp2_with (first
      | (go_at_call 31; (with_reducible refine Calls.mono (within_any _ _ _ _) ?_); rintro e w1 ⟨rfl, ew1⟩; rw [ew1]; clear ew1 w1; simp only [h1])
      | (go_at_call 42; (with_reducible refine Calls.mono (isOfPipe_any _ _) ?_); rintro e w1 ⟨rfl, ew1⟩; rw [ew1]; clear ew1 w1; simp only [h1]))
  go_ret
  exact ⟨rfl, unhide HB⟩

set_option maxRecDepth 100000 in
set_option maxHeartbeats 2000000 in
theorem wrong2 (w : World) (tk op ob vl np : Int) (h1 : decide (1 ≤ tk ∧ tk ≤ 64) = true) (h2 : decide (8 ≤ op ∧ op ≤ 22) = false) :
    Calls Try.prog 32 #[.agg #[.int .i64 tk, .int .i64 op, .int .i64 ob, .int .i64 vl], .int .i64 np] w fun e w' => e = .returned (.int .i64 4) ∧ Below w.heap.size w w' := by
  obtain ⟨W, eW, hB, hE, hSz⟩ := new_two w (evB ⟨tk, op, ob, vl⟩)
  obtain ⟨x0, x1, x2, x3⟩ := ev_cells hE
  have HB := hide hB
  have HE := hide eW
  clear eW hB hE hSz
  go_enter Try.func32, Try.ntmps32
  go_upto_region 1 with fail
  unfold evB at HE
  rw [unhide HE]
  clear HE
  go_wp2_with (first
      | (go_at_call 31; (with_reducible refine Calls.mono (within_any _ _ _ _) ?_); rintro e w1 ⟨rfl, ew1⟩; rw [ew1]; clear ew1 w1; simp only [h1, h2])
      | (go_at_call 42; (with_reducible refine Calls.mono (isOfPipe_any _ _) ?_); rintro e w1 ⟨rfl, ew1⟩; rw [ew1]; clear ew1 w1; simp only [h1, h2]))
  go_ret
  exact ⟨rfl, unhide HB⟩

set_option maxRecDepth 100000 in
set_option maxHeartbeats 2000000 in
theorem wrong3 (w : World) (tk op ob vl np : Int) (h1 : decide (1 ≤ tk ∧ tk ≤ 64) = true) (h2 : decide (8 ≤ op ∧ op ≤ 22) = true) (h3 : decide (0 ≤ ob ∧ ob ≤ 20) = false) :
    Calls Try.prog 32 #[.agg #[.int .i64 tk, .int .i64 op, .int .i64 ob, .int .i64 vl], .int .i64 np] w fun e w' => e = .returned (.int .i64 5) ∧ Below w.heap.size w w' := by
  obtain ⟨W, eW, hB, hE, hSz⟩ := new_two w (evB ⟨tk, op, ob, vl⟩)
  obtain ⟨x0, x1, x2, x3⟩ := ev_cells hE
  have HB := hide hB
  have HE := hide eW
  clear eW hB hE hSz
  go_enter Try.func32, Try.ntmps32
  go_upto_region 1 with fail
  unfold evB at HE
  rw [unhide HE]
  clear HE
  go_wp2_with (first
      | (go_at_call 31; (with_reducible refine Calls.mono (within_any _ _ _ _) ?_); rintro e w1 ⟨rfl, ew1⟩; rw [ew1]; clear ew1 w1; simp only [h1, h2, h3])
      | (go_at_call 42; (with_reducible refine Calls.mono (isOfPipe_any _ _) ?_); rintro e w1 ⟨rfl, ew1⟩; rw [ew1]; clear ew1 w1; simp only [h1, h2, h3]))
  go_ret
  exact ⟨rfl, unhide HB⟩

set_option maxRecDepth 100000 in
set_option maxHeartbeats 2000000 in
theorem wrong4 (w : World) (tk op ob vl np : Int) (h1 : decide (1 ≤ tk ∧ tk ≤ 64) = true) (h2 : decide (8 ≤ op ∧ op ≤ 22) = true) (h3 : decide (0 ≤ ob ∧ ob ≤ 20) = true) (h4 : ofPipe op = true) (h5 : np ≤ ob) :
    Calls Try.prog 32 #[.agg #[.int .i64 tk, .int .i64 op, .int .i64 ob, .int .i64 vl], .int .i64 np] w fun e w' => e = .returned (.int .i64 5) ∧ Below w.heap.size w w' := by
  obtain ⟨W, eW, hB, hE, hSz⟩ := new_two w (evB ⟨tk, op, ob, vl⟩)
  obtain ⟨x0, x1, x2, x3⟩ := ev_cells hE
  have HB := hide hB
  have HE := hide eW
  clear eW hB hE hSz
  go_enter Try.func32, Try.ntmps32
  go_upto_region 1 with fail
  unfold evB at HE
  rw [unhide HE]
  clear HE
  go_wp2_with (first
      | (go_at_call 31; (with_reducible refine Calls.mono (within_any _ _ _ _) ?_); rintro e w1 ⟨rfl, ew1⟩; rw [ew1]; clear ew1 w1; simp only [h1, h2, h3])
      | (go_at_call 42; (with_reducible refine Calls.mono (isOfPipe_any _ _) ?_); rintro e w1 ⟨rfl, ew1⟩; rw [ew1]; clear ew1 w1; simp only [h4]))
  go_ret
  exact ⟨rfl, unhide HB⟩

set_option maxRecDepth 100000 in
set_option maxHeartbeats 2000000 in
theorem wrong5a (w : World) (tk op ob vl np : Int) (h1 : decide (1 ≤ tk ∧ tk ≤ 64) = true) (h2 : decide (8 ≤ op ∧ op ≤ 22) = true) (h3 : decide (0 ≤ ob ∧ ob ≤ 20) = true) (h4 : ofPipe op = true) (h5 : ¬ np ≤ ob) (h6 : (op == 11) = false) :
    Calls Try.prog 32 #[.agg #[.int .i64 tk, .int .i64 op, .int .i64 ob, .int .i64 vl], .int .i64 np] w fun e w' => e = .returned (.int .i64 0) ∧ Below w.heap.size w w' := by
  obtain ⟨W, eW, hB, hE, hSz⟩ := new_two w (evB ⟨tk, op, ob, vl⟩)
  obtain ⟨x0, x1, x2, x3⟩ := ev_cells hE
  have HB := hide hB
  have HE := hide eW
  clear eW hB hE hSz
  go_enter Try.func32, Try.ntmps32
  go_upto_region 1 with fail
  unfold evB at HE
  rw [unhide HE]
  clear HE
  go_wp2_with (first
      | (go_at_call 31; (with_reducible refine Calls.mono (within_any _ _ _ _) ?_); rintro e w1 ⟨rfl, ew1⟩; rw [ew1]; clear ew1 w1; simp only [h1, h2, h3])
      | (go_at_call 42; (with_reducible refine Calls.mono (isOfPipe_any _ _) ?_); rintro e w1 ⟨rfl, ew1⟩; rw [ew1]; clear ew1 w1; simp only [h4]))
  go_ret
  exact ⟨rfl, unhide HB⟩

set_option maxRecDepth 100000 in
set_option maxHeartbeats 2000000 in
theorem wrong5b (w : World) (tk op ob vl np : Int) (h1 : decide (1 ≤ tk ∧ tk ≤ 64) = true) (h2 : decide (8 ≤ op ∧ op ≤ 22) = true) (h3 : decide (0 ≤ ob ∧ ob ≤ 20) = true) (h4 : ofPipe op = false) (h6 : (op == 11) = false) :
    Calls Try.prog 32 #[.agg #[.int .i64 tk, .int .i64 op, .int .i64 ob, .int .i64 vl], .int .i64 np] w fun e w' => e = .returned (.int .i64 0) ∧ Below w.heap.size w w' := by
  obtain ⟨W, eW, hB, hE, hSz⟩ := new_two w (evB ⟨tk, op, ob, vl⟩)
  obtain ⟨x0, x1, x2, x3⟩ := ev_cells hE
  have HB := hide hB
  have HE := hide eW
  clear eW hB hE hSz
  go_enter Try.func32, Try.ntmps32
  go_upto_region 1 with fail
  unfold evB at HE
  rw [unhide HE]
  clear HE
  go_wp2_with (first
      | (go_at_call 31; (with_reducible refine Calls.mono (within_any _ _ _ _) ?_); rintro e w1 ⟨rfl, ew1⟩; rw [ew1]; clear ew1 w1; simp only [h1, h2, h3])
      | (go_at_call 42; (with_reducible refine Calls.mono (isOfPipe_any _ _) ?_); rintro e w1 ⟨rfl, ew1⟩; rw [ew1]; clear ew1 w1; simp only [h4]))
  go_ret
  exact ⟨rfl, unhide HB⟩

set_option maxRecDepth 100000 in
set_option maxHeartbeats 2000000 in
theorem wrong6 (w : World) (tk op ob vl np : Int) (h1 : decide (1 ≤ tk ∧ tk ≤ 64) = true) (h2 : decide (8 ≤ op ∧ op ≤ 22) = true) (h3 : decide (0 ≤ ob ∧ ob ≤ 20) = true) (h4 : ofPipe op = false) (h6 : (op == 11) = true) (h7 : decide (1 ≤ vl ∧ vl ≤ 64) = false) :
    Calls Try.prog 32 #[.agg #[.int .i64 tk, .int .i64 op, .int .i64 ob, .int .i64 vl], .int .i64 np] w fun e w' => e = .returned (.int .i64 5) ∧ Below w.heap.size w w' := by
  obtain ⟨W, eW, hB, hE, hSz⟩ := new_two w (evB ⟨tk, op, ob, vl⟩)
  obtain ⟨x0, x1, x2, x3⟩ := ev_cells hE
  have HB := hide hB
  have HE := hide eW
  clear eW hB hE hSz
  go_enter Try.func32, Try.ntmps32
  go_upto_region 1 with fail
  unfold evB at HE
  rw [unhide HE]
  clear HE
  go_wp2_with (first
      | (go_at_call 31; (with_reducible refine Calls.mono (within_any _ _ _ _) ?_); rintro e w1 ⟨rfl, ew1⟩; rw [ew1]; clear ew1 w1; simp only [h1, h2, h3, h7])
      | (go_at_call 42; (with_reducible refine Calls.mono (isOfPipe_any _ _) ?_); rintro e w1 ⟨rfl, ew1⟩; rw [ew1]; clear ew1 w1; simp only [h4]))
  go_ret
  exact ⟨rfl, unhide HB⟩

set_option maxRecDepth 100000 in
set_option maxHeartbeats 2000000 in
theorem wrong7 (w : World) (tk op ob vl np : Int) (h1 : decide (1 ≤ tk ∧ tk ≤ 64) = true) (h2 : decide (8 ≤ op ∧ op ≤ 22) = true) (h3 : decide (0 ≤ ob ∧ ob ≤ 20) = true) (h4 : ofPipe op = false) (h6 : (op == 11) = true) (h7 : decide (1 ≤ vl ∧ vl ≤ 64) = true) :
    Calls Try.prog 32 #[.agg #[.int .i64 tk, .int .i64 op, .int .i64 ob, .int .i64 vl], .int .i64 np] w fun e w' => e = .returned (.int .i64 0) ∧ Below w.heap.size w w' := by
  obtain ⟨W, eW, hB, hE, hSz⟩ := new_two w (evB ⟨tk, op, ob, vl⟩)
  obtain ⟨x0, x1, x2, x3⟩ := ev_cells hE
  have HB := hide hB
  have HE := hide eW
  clear eW hB hE hSz
  go_enter Try.func32, Try.ntmps32
  go_upto_region 1 with fail
  unfold evB at HE
  rw [unhide HE]
  clear HE
  go_wp2_with (first
      | (go_at_call 31; (with_reducible refine Calls.mono (within_any _ _ _ _) ?_); rintro e w1 ⟨rfl, ew1⟩; rw [ew1]; clear ew1 w1; simp only [h1, h2, h3, h7])
      | (go_at_call 42; (with_reducible refine Calls.mono (isOfPipe_any _ _) ?_); rintro e w1 ⟨rfl, ew1⟩; rw [ew1]; clear ew1 w1; simp only [h4]))
  go_ret
  exact ⟨rfl, unhide HB⟩

theorem wrong_any (w : World) (tk op ob vl np : Int) :
    Calls Try.prog 32 #[.agg #[.int .i64 tk, .int .i64 op, .int .i64 ob, .int .i64 vl], .int .i64 np] w fun e w' => e = .returned (.int .i64 (wrongC np ⟨tk, op, ob, vl⟩)) ∧ Below w.heap.size w w' := by
  unfold wrongC
  dsimp only
  by_cases h1 : 1 ≤ tk ∧ tk ≤ 64
  · rw [if_neg (by simpa using h1)]
    by_cases h2 : 8 ≤ op ∧ op ≤ 22
    · rw [if_neg (by simpa using h2)]
      by_cases h3 : 0 ≤ ob ∧ ob ≤ 20
      · rw [if_neg (by simpa using h3)]
        by_cases h4 : ofPipe op = true
        · have h6 : (op == 11) = false := by
            simp only [ofPipe, Bool.or_eq_true, decide_eq_true_eq] at h4
            simp
            omega
          by_cases h5 : np ≤ ob
          · rw [if_pos ⟨h4, h5⟩]
            exact wrong4 w tk op ob vl np (decide_eq_true h1) (decide_eq_true h2) (decide_eq_true h3) h4 h5
          · rw [if_neg (fun h => h5 h.2), if_neg (fun h => by rw [h.1] at h6; simp at h6)]
            exact wrong5a w tk op ob vl np (decide_eq_true h1) (decide_eq_true h2) (decide_eq_true h3) h4 h5 h6
        · rw [if_neg (fun h => h4 h.1)]
          have h4 : ofPipe op = false := by simpa using h4
          by_cases h6 : op = 11
          · by_cases h7 : 1 ≤ vl ∧ vl ≤ 64
            · rw [if_neg (fun h => h.2 h7)]
              exact wrong7 w tk op ob vl np (decide_eq_true h1) (decide_eq_true h2) (decide_eq_true h3) h4 (by simpa using h6) (decide_eq_true h7)
            · rw [if_pos ⟨h6, h7⟩]
              exact wrong6 w tk op ob vl np (decide_eq_true h1) (decide_eq_true h2) (decide_eq_true h3) h4 (by simpa using h6) (decide_eq_false h7)
          · rw [if_neg (fun h => h6 h.1)]
            exact wrong5b w tk op ob vl np (decide_eq_true h1) (decide_eq_true h2) (decide_eq_true h3) h4 (by simpa using h6)
      · rw [if_pos (by simpa using h3)]
        exact wrong3 w tk op ob vl np (decide_eq_true h1) (decide_eq_true h2) (decide_eq_false h3)
    · rw [if_pos (by simpa using h2)]
      exact wrong2 w tk op ob vl np (decide_eq_true h1) (decide_eq_false h2)
  · rw [if_pos (by simpa using h1)]
    exact wrong1 w tk op ob vl np (decide_eq_false h1)

end Go.Proofs.Ytbnmeeabpjmcoaa
