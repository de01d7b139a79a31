/- Count of a handle that there is not; New that refuses; Lit with and without room. -/
import Derived.Test.YtcjjekhecjmaeaaGreatDoorImFix
import Derived.Test.YtcjjekhecjmaeaaGreatDoorImBuf
import Derived.Test.YtcjjekhecjmaeaaGreatDoorErLaid
import Derived.Test.YtcjjekhecjmaeaaGreatDoorBdFree
set_option maxHeartbeats 1000000
set_option maxRecDepth 100000
namespace Go.Proofs.YtcjjekhecjmaeaaGreatDoor
section
open Go.RowKit Go.Lib
theorem equal_any (va vb : Value) (a b : List UInt8) (w : World) (ha : (convert 49 9 va).run Tryz.prog w = .ok (strV a) w) (hb : (convert 49 9 vb).run Tryz.prog w = .ok (strV b) w) :
  Calls Tryz.prog 56 #[va, vb] w fun e w' => e = .returned (.bool (decide (a = b))) /\ w = w' := by
 have h3 : (⟨a.toArray⟩ : ByteArray).toList = a := by rw [ByteArray.toList_eq]
 have h4 : (⟨b.toArray⟩ : ByteArray).toList = b := by rw [ByteArray.toList_eq]
 unfold strV at ha hb
 generalize (⟨a.toArray⟩ : ByteArray) = s at *
 generalize (⟨b.toArray⟩ : ByteArray) = t at *
 go_enter Tryz.func56, Tryz.ntmps56
 go_wp2
 go_ret
 refine ⟨?_, rfl⟩
 show Ending.returned (Value.bool (a == b)) = _
 congr 2
 by_cases e : a = b
 ·rw [e]; simp
 ·simp [e]
end
section
open Go.RowKit Go.Shelf Go.Lib
theorem conv_bytes {W : World} {v : Value} {l : List UInt8} (h : BytesAt W v l) (hl : 0 < l.length) : (convert 49 9 v).run Tryz.prog W = .ok (.string ⟨l.toArray⟩) W := by
 obtain ⟨a, c, rfl, h⟩ := h
 obtain ⟨g, rfl, -, -⟩ := h 0 hl
 refine run_convert_bytes_back W _ _ 5 ⟨g, 0, none⟩ c l (by kernel_rfl) (by kernel_rfl) (by kernel_rfl) (fun j hj => ?_)
 obtain ⟨g2, e, -, h3⟩ := h j hj
 cases e
 have : (⟨g, 0, none⟩ : Addr).add j = ⟨g, j, none⟩ := by unfold Addr.add; split <;> simp_all
 rw [this]; exact h3
end
section
open Go.RowKit Go.Extern.Stop Go.Stop Go.Extern
theorem noAt (n : Int) (w : World) : (Instr.typeAssert (.iface 54 (.int .i64 n)) 32 118 true).run Tryz.prog w = .ok (.tuple #[.pointer none, .bool false]) w := by kernel_rfl
theorem noUnwrap (n : Int) (w : World) : (Instr.typeAssert (.iface 54 (.int .i64 n)) 32 121 true).run Tryz.prog w = .ok (.tuple #[.nilIface, .bool false]) w := run_typeAssert_lacksB Tryz.underlying121 (by kernel_rfl) (by kernel_rfl) _ 32 w
theorem place_errno (n : Int) (w : World) (hg : Glob w) : Calls Tryz.prog 23 #[.iface 54 (.int .i64 n)] w fun e w' => e = .returned (.tuple #[.int .i64 n, .int .i64 (-1)]) /\ Below w.heap.size w w' := by
 have H := tell_errno n w hg
 have h1 := noAt n
 have h2 := noUnwrap n
 go_enter Tryz.func23, Tryz.ntmps23
 go_wp2_with fail
 refine H.mono ?_
 rintro e w' ⟨rfl, hb⟩
 clear H
 go_wp2_with fail
 refine wp_loop_rounds 1 ?_
 rw [rounds_succ]
 go_wp2
 go_ret2
 exact ⟨rfl, hb⟩
theorem refBare (k : Int) (w : World) : Calls Tryz.prog 53 #[.int .i64 k] w fun e w' => e = .returned (.agg #[.int .i64 k, .int .i64 (-1)]) /\ Below w.heap.size w w' := by
 go_enter Tryz.func53, Tryz.ntmps53
 go_wp2
 exact bodyPost_ret (v := .agg #[.int .i64 k, .int .i64 (-1)]) (by simp [results, Tryz.results53, go_sem]) rfl ⟨rfl, (Below.refl _ _).alloc (Nat.le_refl _) _⟩
theorem at_any (m k pl pk : Int) (v : Value) (w : World) (H : ∀ W : World, Below w.heap.size w W -> Calls Tryz.prog 23 #[v] W fun e w' => e = .returned (.tuple #[.int .i64 m, .int .i64 pl]) /\ Below W.heap.size W w') :
  Calls Tryz.prog 52 #[v, .agg #[.int .i64 k, .int .i64 pk]] w fun e w' => e = .returned (.bool (m == k && pl == pk)) /\ Below w.heap.size w w' := by
 have HH : Hid (∀ W : World, Below w.heap.size w W -> Calls Tryz.prog 23 #[v] W fun e w' => e = .returned (.tuple #[.int .i64 m, .int .i64 pl]) /\ Below W.heap.size W w') := H
 clear H
 have hb1 : Below w.heap.size w (w.alloc (.cells #[.int .i64 k, .int .i64 pk] 108)) := (Below.refl _ _).alloc (Nat.le_refl _) _
 have fin : ∀ q r : Bool, (m == k) = q -> (pl == pk) = r -> Calls Tryz.prog 52 #[v, .agg #[.int .i64 k, .int .i64 pk]] w fun e w' => e = .returned (.bool (q && r)) /\ Below w.heap.size w w' := by
  intro q r hq hr
  cases q <;> cases r
  all_goals
   go_enter Tryz.func52, Tryz.ntmps52
   go_wp2_with fail
   refine (HH.out _ hb1).mono ?_
   rintro e w2 ⟨rfl, hb2⟩
   have c0 : w2.cell? ⟨w.heap.size, 0, none⟩ = some (.int .i64 k) := (hb2.cell (p := ⟨w.heap.size, 0, none⟩) (by simp)).trans (by simp)
   have c1 : w2.cell? ⟨w.heap.size, 1, none⟩ = some (.int .i64 pk) := (hb2.cell (p := ⟨w.heap.size, 1, none⟩) (by simp)).trans (by simp)
   have hb3 : Below w.heap.size w w2 := hb1.trans (hb2.mono (by simp))
   clear hb2
   go_wp2
   go_ret
   exact ⟨rfl, hb3⟩
 exact fin _ _ rfl rfl
theorem bare_core (m k pl : Int) (v : Value) (w : World) (H : ∀ W : World, Below w.heap.size w W -> Calls Tryz.prog 23 #[v] W fun e w' => e = .returned (.tuple #[.int .i64 m, .int .i64 pl]) /\ Below W.heap.size W w') :
  Calls Tryz.prog 20 #[v, .int .i64 k] w fun e w' => e = .returned (.bool (m == k && pl == -1)) /\ Below w.heap.size w w' := by
 have HH : Hid (∀ W : World, Below w.heap.size w W -> Calls Tryz.prog 23 #[v] W fun e w' => e = .returned (.tuple #[.int .i64 m, .int .i64 pl]) /\ Below W.heap.size W w') := H
 clear H
 generalize hz : (m == k && pl == -1) = z
 go_enter Tryz.func20, Tryz.ntmps20
 go_wp2_with fail
 refine (refBare k _).mono ?_
 rintro e w1 ⟨rfl, hb1⟩
 have HA := at_any m k pl (-1) v w1 (fun W hW => HH.out W (hb1.trans (hW.mono hb1.size)))
 rw [hz] at HA
 clear hz
 go_wp2_with fail
 refine HA.mono ?_
 rintro e w2 ⟨rfl, hb2⟩
 go_wp2
 go_ret
 exact ⟨rfl, hb1.trans (hb2.mono hb1.size)⟩
theorem bare_errno (m k : Int) (w : World) (hg : Glob w) : Calls Tryz.prog 20 #[.iface 54 (.int .i64 m), .int .i64 k] w fun e w' => e = .returned (.bool (m == k)) /\ Below w.heap.size w w' := by
 have := bare_core m k (-1) (.iface 54 (.int .i64 m)) w (fun W hW => place_errno m W (hg.below hW))
 simpa using this
end
section
open Go.RowKit Go.Maps
section
variable {B s b : Nat} {O : Nat -> Prop} {vars : Nat} {room : Int} {ns : List Nd} {w w' : World}
end
theorem new_no (room : Int) (h : room < 0 \/ 4000 < room) (w : World) :
  Calls Tryz.prog 61 #[.int .i64 room] w fun e w' => e = .returned (.tuple #[.pointer none, .iface 54 (.int .i64 2)]) /\ Below w.heap.size w w' := by
 by_cases h0 : room < 0
 ·clear h
  go_enter Tryz.func61, Tryz.ntmps61
  go_wp2
  go_ret2
  exact ⟨rfl, Below.refl _ _⟩
 ·have h1 : 4000 < room := by omega
  clear h
  go_enter Tryz.func61, Tryz.ntmps61
  go_wp2
  go_ret2
  exact ⟨rfl, Below.refl _ _⟩
theorem bnew_no (vars room : Int) (h : vars < 0 \/ 24 < vars \/ room < 0 \/ 4000 < room) (w : World) :
  Calls Tryz.prog 31 #[.int .i64 vars, .int .i64 room] w fun e w' => e = .returned (.tuple #[.pointer none, .iface 54 (.int .i64 2)]) /\ Below w.heap.size w w' := by
 by_cases h0 : vars < 0
 ·clear h
  go_enter Tryz.func31, Tryz.ntmps31
  go_wp2
  go_ret2
  exact ⟨rfl, Below.refl _ _⟩
 by_cases h1 : 24 < vars
 ·clear h
  go_enter Tryz.func31, Tryz.ntmps31
  go_wp2
  go_ret2
  exact ⟨rfl, Below.refl _ _⟩
 ·have HN := Lib.hid (new_no room (by omega) w)
  clear h
  go_enter Tryz.func31, Tryz.ntmps31
  go_wp2_with fail
  refine HN.out.mono ?_
  rintro e w1 ⟨rfl, hb⟩
  go_wp2
  go_ret2
  exact ⟨rfl, hb⟩
end
end Go.Proofs.YtcjjekhecjmaeaaGreatDoor
