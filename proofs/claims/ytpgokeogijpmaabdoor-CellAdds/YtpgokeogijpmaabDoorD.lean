/-
  cell.do, by its contract: one op of a known kind is done to its cell.
-/
import Derived.Test.YtpgokeogijpmaabDoorC
import Derived.Deep.RegionHeld3
import Derived.Deep.DrawnRows
namespace Go.Proofs.YtpgokeogijpmaabDoor
open Go.RowKit

theorem keepS {n B mb off f : Nat} {k p a b c : Int} {W w1 : World} (h : Below W.heap.size W w1) (hn : n < W.heap.size) (hB : W.heap[B]? = some (.map ents 5)) (hk : deedOf k = .func (.func f) #[] #[])
    (c0 : W.cell? ⟨n, 0, none⟩ = some (.int .i64 k)) (c1 : W.cell? ⟨n, 1, none⟩ = some (.int .i64 p)) (c2 : W.cell? ⟨n, 2, none⟩ = some (.int .i64 a)) (c3 : W.cell? ⟨n, 3, none⟩ = some (.int .i64 b)) (hm : mb < W.heap.size) (cm : W.cell? ⟨mb, off, none⟩ = some (.int .i64 c)) :
    w1.cell? ⟨n, 0, none⟩ = some (.int .i64 k) ∧ w1.cell? ⟨n, 1, none⟩ = some (.int .i64 p) ∧ w1.cell? ⟨n, 2, none⟩ = some (.int .i64 a) ∧ w1.cell? ⟨n, 3, none⟩ = some (.int .i64 b) ∧ w1.cell? ⟨mb, off, none⟩ = some (.int .i64 c) ∧
    (Instr.lookup 40 (.map (some B)) (.int .i64 k) false).run Tryd.prog w1 = .ok (.func (.func f) #[] #[]) w1 := by
  refine ⟨(h.cell hn).trans c0, (h.cell hn).trans c1, (h.cell hn).trans c2, (h.cell hn).trans c3, (h.cell hm).trans cm, ?_⟩
  have hlt : B < W.heap.size := (Array.getElem?_eq_some_iff.1 hB).1
  rw [look w1 B ((h.block B hlt).trans hB) k false, hk]
  rfl

theorem below_set {w w1 : World} {o : Obj} {p : Addr} (h : Below (w.alloc o).drew.heap.size (w.alloc o).drew w1) (v : Value) : Below w.heap.size (w.setCell p v) (w1.setCell p v) := by
  have h2 : Below w.heap.size w w1 := (((Below.refl _ w).alloc (Nat.le_refl _) o).drew).trans (h.mono (by simp))
  refine ⟨h2.os, h2.tape, h2.output, by simpa [World.setCell] using h2.size, fun k hk => ?_⟩
  simp only [World.setCell, Array.getElem?_modify]
  rw [h2.block k hk]

set_option maxRecDepth 100000 in
set_option maxHeartbeats 1000000 in
theorem do1 (w : World) (B : Nat) (hb : w.heap[B]? = some (.map ents 5)) (mb mo len cap q : Nat) (hq : (q : Int) < (len : Int)) (c a b : Int)
    (hc : w.cell? ⟨mb, mo + q, none⟩ = some (.int .i64 c)) (hf : w.frozen? ⟨mb, mo + q, none⟩ = false) :
    Calls Tryd.prog 13 #[.map (some B), .slice (some ⟨mb, mo, none⟩) len cap, .agg #[.int .i64 1, .int .i64 q, .int .i64 a, .int .i64 b]] w
      fun e w' => e = .returned (.int .i64 (toldOf c 1 a)) ∧ Below w.heap.size (w.setCell ⟨mb, mo + q, none⟩ (.int .i64 (thenOf c 1 a b))) w' := by
  have hlt : B < w.heap.size := (Array.getElem?_eq_some_iff.1 hb).1
  have hmlt : mb < w.heap.size := World.block_lt_of_cell? w _ hc
  have h0 : (0 : Int) ≤ (q : Int) := by omega
  have hB : ∀ o, (w.alloc o).drew.heap[B]? = some (.map ents 5) := fun o => ((MapKept.heap_alloc w o).2 B hlt).trans hb
  have hl : ∀ o, (Instr.lookup 40 (.map (some B)) (.int .i64 1) false).run Tryd.prog (w.alloc o).drew = .ok (.func (.func 20) #[] #[]) (w.alloc o).drew := fun o => look (w.alloc o).drew B (hB o) 1 false
  have hc2 : ∀ o, (w.alloc o).drew.cell? ⟨mb, mo + q, none⟩ = some (.int .i64 c) := fun o => (World.cell?_alloc_past (w := w) _ _ _ hmlt).trans hc
  have HS : Hid (∀ w1, Below (w.alloc (.cells #[.int .i64 1, .int .i64 q, .int .i64 a, .int .i64 b] 29)).drew.heap.size (w.alloc (.cells #[.int .i64 1, .int .i64 q, .int .i64 a, .int .i64 b] 29)).drew w1 → _) := fun w1 h1 =>
    keepS (n := w.heap.size) (mb := mb) (off := mo + q) (f := 20) (k := 1) (p := q) (a := a) (b := b) (c := c) h1 (by simp) (hB _) rfl (by simp) (by simp) (by simp) (by simp) (by simp; omega) (hc2 _)
  have HF : Hid (∀ o w1, Below (w.alloc o).drew.heap.size (w.alloc o).drew w1 → w1.frozen? ⟨mb, mo + q, none⟩ = false) := fun o w1 h1 =>
    (h1.frozen (p := ⟨mb, mo + q, none⟩) (by simp; omega)).trans ((World.frozen?_alloc_old w o ⟨mb, mo + q, none⟩ (by simp; omega)).trans hf)
  have HB : Hid (∀ o w1 v, Below (w.alloc o).drew.heap.size (w.alloc o).drew w1 → Below w.heap.size (w.setCell ⟨mb, mo + q, none⟩ v) (w1.setCell ⟨mb, mo + q, none⟩ v)) := fun o w1 v h1 => below_set h1 v
  clear hB hb
  go_enter Tryd.func13, Tryd.ntmps13
  go_wp2
  go_region_held3 (fun w' => w'.cell? ⟨w.heap.size, 0, none⟩ = some (.int .i64 1) ∧ w'.cell? ⟨w.heap.size, 1, none⟩ = some (.int .i64 q) ∧ w'.cell? ⟨w.heap.size, 2, none⟩ = some (.int .i64 a) ∧ w'.cell? ⟨w.heap.size, 3, none⟩ = some (.int .i64 b) ∧ w'.cell? ⟨mb, mo + q, none⟩ = some (.int .i64 c) ∧ (Instr.lookup 40 (.map (some B)) (.int .i64 1) false).run Tryd.prog w' = .ok (.func (.func 20) #[] #[]) w') (first | go_keep | assumption)
    (first | (go_at_call 20; refine (deed1 _ c q a b).mono ?_; rintro e w1 ⟨rfl, hb1⟩; have hS := HS.out _ hb1; have hF := HF.out _ _ hb1; have HBx := HB.out _ _ (.int .i64 (thenOf c 1 a b)) hb1))
  obtain ⟨_, s1, _, _, s4, _⟩ := hS
  clear HS HF HB hl hc2 hc hf hb1
  have HB2 : Hid _ := HBx
  clear HBx
  go_wp2
  go_ret
  exact ⟨rfl, HB2.out⟩

set_option maxRecDepth 100000 in
set_option maxHeartbeats 1000000 in
theorem do2 (w : World) (B : Nat) (hb : w.heap[B]? = some (.map ents 5)) (mb mo len cap q : Nat) (hq : (q : Int) < (len : Int)) (c a b : Int)
    (hc : w.cell? ⟨mb, mo + q, none⟩ = some (.int .i64 c)) (hf : w.frozen? ⟨mb, mo + q, none⟩ = false) :
    Calls Tryd.prog 13 #[.map (some B), .slice (some ⟨mb, mo, none⟩) len cap, .agg #[.int .i64 2, .int .i64 q, .int .i64 a, .int .i64 b]] w
      fun e w' => e = .returned (.int .i64 (toldOf c 2 a)) ∧ Below w.heap.size (w.setCell ⟨mb, mo + q, none⟩ (.int .i64 (thenOf c 2 a b))) w' := by
  have hlt : B < w.heap.size := (Array.getElem?_eq_some_iff.1 hb).1
  have hmlt : mb < w.heap.size := World.block_lt_of_cell? w _ hc
  have h0 : (0 : Int) ≤ (q : Int) := by omega
  have hB : ∀ o, (w.alloc o).drew.heap[B]? = some (.map ents 5) := fun o => ((MapKept.heap_alloc w o).2 B hlt).trans hb
  have hl : ∀ o, (Instr.lookup 40 (.map (some B)) (.int .i64 2) false).run Tryd.prog (w.alloc o).drew = .ok (.func (.func 21) #[] #[]) (w.alloc o).drew := fun o => look (w.alloc o).drew B (hB o) 2 false
  have hc2 : ∀ o, (w.alloc o).drew.cell? ⟨mb, mo + q, none⟩ = some (.int .i64 c) := fun o => (World.cell?_alloc_past (w := w) _ _ _ hmlt).trans hc
  have HS : Hid (∀ w1, Below (w.alloc (.cells #[.int .i64 2, .int .i64 q, .int .i64 a, .int .i64 b] 29)).drew.heap.size (w.alloc (.cells #[.int .i64 2, .int .i64 q, .int .i64 a, .int .i64 b] 29)).drew w1 → _) := fun w1 h1 =>
    keepS (n := w.heap.size) (mb := mb) (off := mo + q) (f := 21) (k := 2) (p := q) (a := a) (b := b) (c := c) h1 (by simp) (hB _) rfl (by simp) (by simp) (by simp) (by simp) (by simp; omega) (hc2 _)
  have HF : Hid (∀ o w1, Below (w.alloc o).drew.heap.size (w.alloc o).drew w1 → w1.frozen? ⟨mb, mo + q, none⟩ = false) := fun o w1 h1 =>
    (h1.frozen (p := ⟨mb, mo + q, none⟩) (by simp; omega)).trans ((World.frozen?_alloc_old w o ⟨mb, mo + q, none⟩ (by simp; omega)).trans hf)
  have HB : Hid (∀ o w1 v, Below (w.alloc o).drew.heap.size (w.alloc o).drew w1 → Below w.heap.size (w.setCell ⟨mb, mo + q, none⟩ v) (w1.setCell ⟨mb, mo + q, none⟩ v)) := fun o w1 v h1 => below_set h1 v
  clear hB hb
  go_enter Tryd.func13, Tryd.ntmps13
  go_wp2
  go_region_held3 (fun w' => w'.cell? ⟨w.heap.size, 0, none⟩ = some (.int .i64 2) ∧ w'.cell? ⟨w.heap.size, 1, none⟩ = some (.int .i64 q) ∧ w'.cell? ⟨w.heap.size, 2, none⟩ = some (.int .i64 a) ∧ w'.cell? ⟨w.heap.size, 3, none⟩ = some (.int .i64 b) ∧ w'.cell? ⟨mb, mo + q, none⟩ = some (.int .i64 c) ∧ (Instr.lookup 40 (.map (some B)) (.int .i64 2) false).run Tryd.prog w' = .ok (.func (.func 21) #[] #[]) w') (first | go_keep | assumption)
    (first | (go_at_call 21; refine (deed2 _ c q a b).mono ?_; rintro e w1 ⟨rfl, hb1⟩; have hS := HS.out _ hb1; have hF := HF.out _ _ hb1; have HBx := HB.out _ _ (.int .i64 (thenOf c 2 a b)) hb1))
  obtain ⟨_, s1, _, _, s4, _⟩ := hS
  clear HS HF HB hl hc2 hc hf hb1
  have HB2 : Hid _ := HBx
  clear HBx
  go_wp2
  go_ret
  exact ⟨rfl, HB2.out⟩

set_option maxRecDepth 100000 in
set_option maxHeartbeats 1000000 in
theorem do3 (w : World) (B : Nat) (hb : w.heap[B]? = some (.map ents 5)) (mb mo len cap q : Nat) (hq : (q : Int) < (len : Int)) (c a b : Int)
    (hc : w.cell? ⟨mb, mo + q, none⟩ = some (.int .i64 c)) (hf : w.frozen? ⟨mb, mo + q, none⟩ = false) :
    Calls Tryd.prog 13 #[.map (some B), .slice (some ⟨mb, mo, none⟩) len cap, .agg #[.int .i64 3, .int .i64 q, .int .i64 a, .int .i64 b]] w
      fun e w' => e = .returned (.int .i64 (toldOf c 3 a)) ∧ Below w.heap.size (w.setCell ⟨mb, mo + q, none⟩ (.int .i64 (thenOf c 3 a b))) w' := by
  have hlt : B < w.heap.size := (Array.getElem?_eq_some_iff.1 hb).1
  have hmlt : mb < w.heap.size := World.block_lt_of_cell? w _ hc
  have h0 : (0 : Int) ≤ (q : Int) := by omega
  have hB : ∀ o, (w.alloc o).drew.heap[B]? = some (.map ents 5) := fun o => ((MapKept.heap_alloc w o).2 B hlt).trans hb
  have hl : ∀ o, (Instr.lookup 40 (.map (some B)) (.int .i64 3) false).run Tryd.prog (w.alloc o).drew = .ok (.func (.func 22) #[] #[]) (w.alloc o).drew := fun o => look (w.alloc o).drew B (hB o) 3 false
  have hc2 : ∀ o, (w.alloc o).drew.cell? ⟨mb, mo + q, none⟩ = some (.int .i64 c) := fun o => (World.cell?_alloc_past (w := w) _ _ _ hmlt).trans hc
  have HS : Hid (∀ w1, Below (w.alloc (.cells #[.int .i64 3, .int .i64 q, .int .i64 a, .int .i64 b] 29)).drew.heap.size (w.alloc (.cells #[.int .i64 3, .int .i64 q, .int .i64 a, .int .i64 b] 29)).drew w1 → _) := fun w1 h1 =>
    keepS (n := w.heap.size) (mb := mb) (off := mo + q) (f := 22) (k := 3) (p := q) (a := a) (b := b) (c := c) h1 (by simp) (hB _) rfl (by simp) (by simp) (by simp) (by simp) (by simp; omega) (hc2 _)
  have HF : Hid (∀ o w1, Below (w.alloc o).drew.heap.size (w.alloc o).drew w1 → w1.frozen? ⟨mb, mo + q, none⟩ = false) := fun o w1 h1 =>
    (h1.frozen (p := ⟨mb, mo + q, none⟩) (by simp; omega)).trans ((World.frozen?_alloc_old w o ⟨mb, mo + q, none⟩ (by simp; omega)).trans hf)
  have HB : Hid (∀ o w1 v, Below (w.alloc o).drew.heap.size (w.alloc o).drew w1 → Below w.heap.size (w.setCell ⟨mb, mo + q, none⟩ v) (w1.setCell ⟨mb, mo + q, none⟩ v)) := fun o w1 v h1 => below_set h1 v
  clear hB hb
  go_enter Tryd.func13, Tryd.ntmps13
  go_wp2
  go_region_held3 (fun w' => w'.cell? ⟨w.heap.size, 0, none⟩ = some (.int .i64 3) ∧ w'.cell? ⟨w.heap.size, 1, none⟩ = some (.int .i64 q) ∧ w'.cell? ⟨w.heap.size, 2, none⟩ = some (.int .i64 a) ∧ w'.cell? ⟨w.heap.size, 3, none⟩ = some (.int .i64 b) ∧ w'.cell? ⟨mb, mo + q, none⟩ = some (.int .i64 c) ∧ (Instr.lookup 40 (.map (some B)) (.int .i64 3) false).run Tryd.prog w' = .ok (.func (.func 22) #[] #[]) w') (first | go_keep | assumption)
    (first | (go_at_call 22; refine (deed3 _ c q a b).mono ?_; rintro e w1 ⟨rfl, hb1⟩; have hS := HS.out _ hb1; have hF := HF.out _ _ hb1; have HBx := HB.out _ _ (.int .i64 (thenOf c 3 a b)) hb1))
  obtain ⟨_, s1, _, _, s4, _⟩ := hS
  clear HS HF HB hl hc2 hc hf hb1
  have HB2 : Hid _ := HBx
  clear HBx
  go_wp2
  go_ret
  exact ⟨rfl, HB2.out⟩

set_option maxRecDepth 100000 in
set_option maxHeartbeats 1000000 in
theorem do4 (w : World) (B : Nat) (hb : w.heap[B]? = some (.map ents 5)) (mb mo len cap q : Nat) (hq : (q : Int) < (len : Int)) (c a b : Int)
    (hc : w.cell? ⟨mb, mo + q, none⟩ = some (.int .i64 c)) (hf : w.frozen? ⟨mb, mo + q, none⟩ = false) :
    Calls Tryd.prog 13 #[.map (some B), .slice (some ⟨mb, mo, none⟩) len cap, .agg #[.int .i64 4, .int .i64 q, .int .i64 a, .int .i64 b]] w
      fun e w' => e = .returned (.int .i64 (toldOf c 4 a)) ∧ Below w.heap.size (w.setCell ⟨mb, mo + q, none⟩ (.int .i64 (thenOf c 4 a b))) w' := by
  have hlt : B < w.heap.size := (Array.getElem?_eq_some_iff.1 hb).1
  have hmlt : mb < w.heap.size := World.block_lt_of_cell? w _ hc
  have h0 : (0 : Int) ≤ (q : Int) := by omega
  have hB : ∀ o, (w.alloc o).drew.heap[B]? = some (.map ents 5) := fun o => ((MapKept.heap_alloc w o).2 B hlt).trans hb
  have hl : ∀ o, (Instr.lookup 40 (.map (some B)) (.int .i64 4) false).run Tryd.prog (w.alloc o).drew = .ok (.func (.func 23) #[] #[]) (w.alloc o).drew := fun o => look (w.alloc o).drew B (hB o) 4 false
  have hc2 : ∀ o, (w.alloc o).drew.cell? ⟨mb, mo + q, none⟩ = some (.int .i64 c) := fun o => (World.cell?_alloc_past (w := w) _ _ _ hmlt).trans hc
  have HS : Hid (∀ w1, Below (w.alloc (.cells #[.int .i64 4, .int .i64 q, .int .i64 a, .int .i64 b] 29)).drew.heap.size (w.alloc (.cells #[.int .i64 4, .int .i64 q, .int .i64 a, .int .i64 b] 29)).drew w1 → _) := fun w1 h1 =>
    keepS (n := w.heap.size) (mb := mb) (off := mo + q) (f := 23) (k := 4) (p := q) (a := a) (b := b) (c := c) h1 (by simp) (hB _) rfl (by simp) (by simp) (by simp) (by simp) (by simp; omega) (hc2 _)
  have HF : Hid (∀ o w1, Below (w.alloc o).drew.heap.size (w.alloc o).drew w1 → w1.frozen? ⟨mb, mo + q, none⟩ = false) := fun o w1 h1 =>
    (h1.frozen (p := ⟨mb, mo + q, none⟩) (by simp; omega)).trans ((World.frozen?_alloc_old w o ⟨mb, mo + q, none⟩ (by simp; omega)).trans hf)
  have HB : Hid (∀ o w1 v, Below (w.alloc o).drew.heap.size (w.alloc o).drew w1 → Below w.heap.size (w.setCell ⟨mb, mo + q, none⟩ v) (w1.setCell ⟨mb, mo + q, none⟩ v)) := fun o w1 v h1 => below_set h1 v
  clear hB hb
  go_enter Tryd.func13, Tryd.ntmps13
  go_wp2
  go_region_held3 (fun w' => w'.cell? ⟨w.heap.size, 0, none⟩ = some (.int .i64 4) ∧ w'.cell? ⟨w.heap.size, 1, none⟩ = some (.int .i64 q) ∧ w'.cell? ⟨w.heap.size, 2, none⟩ = some (.int .i64 a) ∧ w'.cell? ⟨w.heap.size, 3, none⟩ = some (.int .i64 b) ∧ w'.cell? ⟨mb, mo + q, none⟩ = some (.int .i64 c) ∧ (Instr.lookup 40 (.map (some B)) (.int .i64 4) false).run Tryd.prog w' = .ok (.func (.func 23) #[] #[]) w') (first | go_keep | assumption)
    (first | (go_at_call 23; refine (deed4 _ c q a b).mono ?_; rintro e w1 ⟨rfl, hb1⟩; have hS := HS.out _ hb1; have hF := HF.out _ _ hb1; have HBx := HB.out _ _ (.int .i64 (thenOf c 4 a b)) hb1))
  obtain ⟨_, s1, _, _, s4, _⟩ := hS
  clear HS HF HB hl hc2 hc hf hb1
  have HB2 : Hid _ := HBx
  clear HBx
  go_wp2
  go_ret
  exact ⟨rfl, HB2.out⟩

set_option maxRecDepth 100000 in
set_option maxHeartbeats 1000000 in
theorem do5 (w : World) (B : Nat) (hb : w.heap[B]? = some (.map ents 5)) (mb mo len cap q : Nat) (hq : (q : Int) < (len : Int)) (c a b : Int)
    (hc : w.cell? ⟨mb, mo + q, none⟩ = some (.int .i64 c)) (hf : w.frozen? ⟨mb, mo + q, none⟩ = false) :
    Calls Tryd.prog 13 #[.map (some B), .slice (some ⟨mb, mo, none⟩) len cap, .agg #[.int .i64 5, .int .i64 q, .int .i64 a, .int .i64 b]] w
      fun e w' => e = .returned (.int .i64 (toldOf c 5 a)) ∧ Below w.heap.size (w.setCell ⟨mb, mo + q, none⟩ (.int .i64 (thenOf c 5 a b))) w' := by
  have hlt : B < w.heap.size := (Array.getElem?_eq_some_iff.1 hb).1
  have hmlt : mb < w.heap.size := World.block_lt_of_cell? w _ hc
  have h0 : (0 : Int) ≤ (q : Int) := by omega
  have hB : ∀ o, (w.alloc o).drew.heap[B]? = some (.map ents 5) := fun o => ((MapKept.heap_alloc w o).2 B hlt).trans hb
  have hl : ∀ o, (Instr.lookup 40 (.map (some B)) (.int .i64 5) false).run Tryd.prog (w.alloc o).drew = .ok (.func (.func 24) #[] #[]) (w.alloc o).drew := fun o => look (w.alloc o).drew B (hB o) 5 false
  have hc2 : ∀ o, (w.alloc o).drew.cell? ⟨mb, mo + q, none⟩ = some (.int .i64 c) := fun o => (World.cell?_alloc_past (w := w) _ _ _ hmlt).trans hc
  have HS : Hid (∀ w1, Below (w.alloc (.cells #[.int .i64 5, .int .i64 q, .int .i64 a, .int .i64 b] 29)).drew.heap.size (w.alloc (.cells #[.int .i64 5, .int .i64 q, .int .i64 a, .int .i64 b] 29)).drew w1 → _) := fun w1 h1 =>
    keepS (n := w.heap.size) (mb := mb) (off := mo + q) (f := 24) (k := 5) (p := q) (a := a) (b := b) (c := c) h1 (by simp) (hB _) rfl (by simp) (by simp) (by simp) (by simp) (by simp; omega) (hc2 _)
  have HF : Hid (∀ o w1, Below (w.alloc o).drew.heap.size (w.alloc o).drew w1 → w1.frozen? ⟨mb, mo + q, none⟩ = false) := fun o w1 h1 =>
    (h1.frozen (p := ⟨mb, mo + q, none⟩) (by simp; omega)).trans ((World.frozen?_alloc_old w o ⟨mb, mo + q, none⟩ (by simp; omega)).trans hf)
  have HB : Hid (∀ o w1 v, Below (w.alloc o).drew.heap.size (w.alloc o).drew w1 → Below w.heap.size (w.setCell ⟨mb, mo + q, none⟩ v) (w1.setCell ⟨mb, mo + q, none⟩ v)) := fun o w1 v h1 => below_set h1 v
  clear hB hb
  go_enter Tryd.func13, Tryd.ntmps13
  go_wp2
  go_region_held3 (fun w' => w'.cell? ⟨w.heap.size, 0, none⟩ = some (.int .i64 5) ∧ w'.cell? ⟨w.heap.size, 1, none⟩ = some (.int .i64 q) ∧ w'.cell? ⟨w.heap.size, 2, none⟩ = some (.int .i64 a) ∧ w'.cell? ⟨w.heap.size, 3, none⟩ = some (.int .i64 b) ∧ w'.cell? ⟨mb, mo + q, none⟩ = some (.int .i64 c) ∧ (Instr.lookup 40 (.map (some B)) (.int .i64 5) false).run Tryd.prog w' = .ok (.func (.func 24) #[] #[]) w') (first | go_keep | assumption)
    (first | (go_at_call 24; refine (deed5 _ c q a b).mono ?_; rintro e w1 ⟨rfl, hb1⟩; have hS := HS.out _ hb1; have hF := HF.out _ _ hb1; have HBx := HB.out _ _ (.int .i64 (thenOf c 5 a b)) hb1))
  obtain ⟨_, s1, _, _, s4, _⟩ := hS
  clear HS HF HB hl hc2 hc hf hb1
  have HB2 : Hid _ := HBx
  clear HBx
  go_wp2
  go_ret
  exact ⟨rfl, HB2.out⟩

/-- cell.do: an op of a known kind is done to its cell. -/
theorem do_any (w : World) (B : Nat) (hb : w.heap[B]? = some (.map ents 5)) (mb mo len cap q : Nat) (hq : (q : Int) < (len : Int)) (c k a b : Int) (hk : 1 ≤ k ∧ k ≤ 5)
    (hc : w.cell? ⟨mb, mo + q, none⟩ = some (.int .i64 c)) (hf : w.frozen? ⟨mb, mo + q, none⟩ = false) :
    Calls Tryd.prog 13 #[.map (some B), .slice (some ⟨mb, mo, none⟩) len cap, .agg #[.int .i64 k, .int .i64 q, .int .i64 a, .int .i64 b]] w
      fun e w' => e = .returned (.int .i64 (toldOf c k a)) ∧ Below w.heap.size (w.setCell ⟨mb, mo + q, none⟩ (.int .i64 (thenOf c k a b))) w' := by
  have h : k = 1 ∨ k = 2 ∨ k = 3 ∨ k = 4 ∨ k = 5 := by omega
  rcases h with rfl | rfl | rfl | rfl | rfl
  · exact do1 w B hb mb mo len cap q hq c a b hc hf
  · exact do2 w B hb mb mo len cap q hq c a b hc hf
  · exact do3 w B hb mb mo len cap q hq c a b hc hf
  · exact do4 w B hb mb mo len cap q hq c a b hc hf
  · exact do5 w B hb mb mo len cap q hq c a b hc hf
end Go.Proofs.YtpgokeogijpmaabDoor
