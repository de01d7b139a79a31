/- The walk of ArenaOnce: what its loops keep. -/
import Derived.Test.YteipbfadljgppaaArLies
namespace Go.Proofs.Yteipbfadljgppaa
open Go.RowKit Go.Maps

/-- A list of ints that came in. -/
def ArgInts (w : World) (v : Value) (xs : List Int) : Prop :=
  ∃ a cap, v = .slice a xs.length cap ∧ ∀ i, i < xs.length → ∃ ad : Addr, a = some ad ∧ ad.block < w.heap.size ∧ w.cell? (ad.add i) = some (.int .i64 (xs.getD i 0)) ∧ I64 (xs.getD i 0)

/-- What stands while nodes are made. 'al': the handles so far. -/
structure Making (B : Nat) (W0 w : World) (b bm bo : Nat) (v : Value) (a : Option Addr) (cap : Nat) (ns : List Nd) (al : List Int) (next : Int) : Prop where
  arena : ArenaAt B w b bm v ns (pairsOf ns) 100 next
  full : Full ns
  next' : ∃ i : Nat, next = 2 + (i : Int) ∧ i ≤ ns.length
  ofs : ∃ D, w.ownsMap Try.prog 32 (plainElem Try.prog 3) bo (pairsOf ns).length D ∧ Rep Nd.Ok Nd.lit (fun x : Int => .lit (.int .i64 x)) D (pairsOf ns)
  all : w.ownsRow B 3 1 (.slice a al.length cap) al.length (icells al)
  two : 2 ≤ al.length
  has : ∀ x ∈ al, hasB ns x = true ∧ 0 ≤ x ∧ x ≤ 1000
  o1 : ¬ Own b bm v bo
  o2 : ∀ k, (Value.slice a al.length cap).ownBlock = some k → ¬ Own b bm v k ∧ k ≠ bo
  Bo : B ≤ bo
  below : Below B W0 w

set_option maxRecDepth 100000 in
set_option maxHeartbeats 1000000 in
theorem once_short (vs ls hs : List Int) (va vl vh : Value) (keep : Int) (w : World) (h1 : ArgInts w va vs) (h2 : ArgInts w vl ls) (h3 : ArgInts w vh hs) (_b1 : vs.length ≤ 9223372036854775807) (_b2 : ls.length ≤ 9223372036854775807) (_b3 : hs.length ≤ 9223372036854775807) (h : 40 < vs.length ∨ ls.length < vs.length ∨ hs.length < vs.length) :
    Calls Try.prog 3 #[va, vl, vh, .int .i64 keep] w fun e w' => e = .returned (.bool true) ∧ Below w.heap.size w w' := by
  obtain ⟨a1, c1, rfl, -⟩ := h1
  obtain ⟨a2, c2, rfl, -⟩ := h2
  obtain ⟨a3, c3, rfl, -⟩ := h3
  by_cases g1 : 40 < vs.length
  · clear h
    go_enter Try.func3, Try.ntmps3
    go_wp2
    go_ret
    exact ⟨rfl, Below.refl _ _⟩
  · by_cases g2 : ls.length < vs.length
    · clear h
      go_enter Try.func3, Try.ntmps3
      go_wp2
      go_ret
      exact ⟨rfl, Below.refl _ _⟩
    · have g3 : hs.length < vs.length := by omega
      clear h
      go_enter Try.func3, Try.ntmps3
      go_wp2
      go_ret
      exact ⟨rfl, Below.refl _ _⟩

theorem built_row (w : World) {B : Nat} (hB : B ≤ w.heap.size) (xs : Array Value) (e : TypeId) (hm : xs.size ≤ maxLen) : (w.alloc (.cells xs e)).ownsRow B e 1 (.slice (some ⟨w.heap.size, 0, none⟩) xs.size xs.size) xs.size xs.toList := by
  refine ⟨by simp, .inr ⟨w.heap.size, xs.size, xs, rfl, hB, (MapKept.heap_alloc w _).1, Nat.le_refl _, hm, by simp, ?_⟩⟩
  rw [Nat.mul_one, List.take_of_length_le (by simp)]

theorem making_start {w w2 : World} (hA : ArenaAt w.heap.size w2 (w.heap.size + 1) w.heap.size (.slice none 0 0) [] [] 100 2) (hb : Below w.heap.size w w2) :
    Making w.heap.size w ((w2.alloc (.map #[] 0)).alloc (.cells #[.int .i64 0, .int .i64 1] 3)) (w.heap.size + 1) w.heap.size w2.heap.size (.slice none 0 0) (some ⟨w2.heap.size + 1, 0, none⟩) 2 [] [0, 1] 2 := by
  have hs := hb.size
  have hlt := hA.lt
  obtain ⟨D, hD, -⟩ := hA.hmap
  have hlm := hD.lt
  have e1 : (w2.alloc (.map #[] 0)).heap.size = w2.heap.size + 1 := by simp
  have hk : Kept (fun _ => False) w2 ((w2.alloc (.map #[] 0)).alloc (.cells #[.int .i64 0, .int .i64 1] 3)) := (Kept.alloc _ _ _).trans (Kept.alloc _ _ _)
  have hm : ((w2.alloc (.map #[] 0)).alloc (.cells #[.int .i64 0, .int .i64 1] 3)).ownsMap Try.prog 32 (plainElem (H := Unit) Try.prog 3) w2.heap.size 0 (.map []) := (World.ownsMap_made w2 _ _ _).alloc _
  have hr := built_row (w2.alloc (.map #[] 0)) (B := w.heap.size) (by rw [e1]; omega) #[.int .i64 0, .int .i64 1] 3 (by unfold maxLen; decide)
  rw [e1] at hr
  refine ⟨hA.kept hk (fun _ _ h => h), full_nil, ⟨0, rfl, Nat.le_refl _⟩, ⟨_, hm, Rep.empty⟩, hr, by simp, ?_, ?_, ?_, hs, (hb.alloc hs _).alloc (by simp; omega) _⟩
  · intro x hx
    simp at hx
    rcases hx with rfl | rfl
    · exact ⟨by decide, by omega, by omega⟩
    · exact ⟨by decide, by omega, by omega⟩
  · rintro (h | h | h)
    · omega
    · omega
    · simp [Value.ownBlock] at h
  · intro k hk
    have hk2 : w2.heap.size + 1 = k := Option.some.inj hk
    refine ⟨?_, by omega⟩
    rintro (h | h | h)
    · omega
    · omega
    · simp [Value.ownBlock] at h
end Go.Proofs.Yteipbfadljgppaa
