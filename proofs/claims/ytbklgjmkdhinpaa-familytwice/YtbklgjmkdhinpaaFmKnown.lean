/- What is seen at once of two families. -/
import Derived.Test.YtbklgjmkdhinpaaFmSmall
set_option maxHeartbeats 2000000
set_option maxRecDepth 100000
namespace Go.Proofs.Ytbklgjmkdhinpaa.Fm
open Go.RowKit Go.Maps Go.Proofs.Ytbklgjmkdhinpaa.Bd
def knX (k : K) (a b : Int) : Int := (knownZ k a b).getD (if k = .least then a else 0)
def KnowsC (F : FuncId) (k : K) : Prop := ∀ (a b : Int) (W : World), Calls Try.prog F #[.int .i64 a, .int .i64 b] W fun e w' => e = .returned (.tuple #[.int .i64 (knX k a b), .bool (knownZ k a b).isSome]) /\ W = w'
theorem knX_some {k : K} {a b x : Int} (h : knownZ k a b = some x) : knX k a b = x /\ (knownZ k a b).isSome = true := by unfold knX; rw [h]; exact ⟨rfl, rfl⟩
theorem knX_none {k : K} {a b : Int} (h : knownZ k a b = none) : knX k a b = (if k = .least then a else 0) /\ (knownZ k a b).isSome = false := by unfold knX; rw [h]; exact ⟨rfl, rfl⟩
theorem knows_or : KnowsC 67 .or := by
 intro a b W
 by_cases c0 : a = b
 ·obtain ⟨k1, k2⟩ := knX_some (show knownZ .or a b = some a by simp only [knownZ]; (repeat' split) <;> first | rfl | (exfalso; omega) | (congr 1; omega))
  rw [k1, k2]
  have q0 : (a == b) = true := by simpa using c0
  clear k1 k2
  subst c0
  go_enter Try.func67, Try.ntmps67
  go_wp2
  go_ret2
  exact ⟨rfl, rfl⟩
 have q0 : (a == b) = false := by simpa using c0
 by_cases c1 : b = 0
 ·obtain ⟨k1, k2⟩ := knX_some (show knownZ .or a b = some a by simp only [knownZ]; (repeat' split) <;> first | rfl | (exfalso; omega) | (congr 1; omega))
  rw [k1, k2]
  have q1 : (b == 0) = true := by simpa using c1
  clear k1 k2
  subst c1
  go_enter Try.func67, Try.ntmps67
  go_wp2
  go_ret2
  exact ⟨rfl, rfl⟩
 have q1 : (b == 0) = false := by simpa using c1
 by_cases c2 : a = 0
 ·obtain ⟨k1, k2⟩ := knX_some (show knownZ .or a b = some b by simp only [knownZ]; (repeat' split) <;> first | rfl | (exfalso; omega) | (congr 1; omega))
  rw [k1, k2]
  have q2 : (a == 0) = true := by simpa using c2
  clear k1 k2
  subst c2
  go_enter Try.func67, Try.ntmps67
  go_wp2
  go_ret2
  exact ⟨rfl, rfl⟩
 have q2 : (a == 0) = false := by simpa using c2
 obtain ⟨k1, k2⟩ := knX_none (show knownZ .or a b = none by simp only [knownZ]; (repeat' split) <;> first | rfl | (exfalso; omega) | (congr 1; omega))
 rw [k1, k2]
 clear k1 k2
 rw [if_neg (by decide)]
 go_enter Try.func67, Try.ntmps67
 go_wp2
 go_ret2
 exact ⟨rfl, rfl⟩
theorem knows_and : KnowsC 65 .and := by
 intro a b W
 by_cases c0 : a = b
 ·obtain ⟨k1, k2⟩ := knX_some (show knownZ .and a b = some a by simp only [knownZ]; (repeat' split) <;> first | rfl | (exfalso; omega) | (congr 1; omega))
  rw [k1, k2]
  have q0 : (a == b) = true := by simpa using c0
  clear k1 k2
  subst c0
  go_enter Try.func65, Try.ntmps65
  go_wp2
  go_ret2
  exact ⟨rfl, rfl⟩
 have q0 : (a == b) = false := by simpa using c0
 by_cases c1 : a = 0
 ·obtain ⟨k1, k2⟩ := knX_some (show knownZ .and a b = some 0 by simp only [knownZ]; (repeat' split) <;> first | rfl | (exfalso; omega) | (congr 1; omega))
  rw [k1, k2]
  have q1 : (a == 0) = true := by simpa using c1
  clear k1 k2
  subst c1
  go_enter Try.func65, Try.ntmps65
  go_wp2
  go_ret2
  exact ⟨rfl, rfl⟩
 have q1 : (a == 0) = false := by simpa using c1
 by_cases c2 : b = 0
 ·obtain ⟨k1, k2⟩ := knX_some (show knownZ .and a b = some 0 by simp only [knownZ]; (repeat' split) <;> first | rfl | (exfalso; omega) | (congr 1; omega))
  rw [k1, k2]
  have q2 : (b == 0) = true := by simpa using c2
  clear k1 k2
  subst c2
  go_enter Try.func65, Try.ntmps65
  go_wp2
  go_ret2
  exact ⟨rfl, rfl⟩
 have q2 : (b == 0) = false := by simpa using c2
 obtain ⟨k1, k2⟩ := knX_none (show knownZ .and a b = none by simp only [knownZ]; (repeat' split) <;> first | rfl | (exfalso; omega) | (congr 1; omega))
 rw [k1, k2]
 clear k1 k2
 rw [if_neg (by decide)]
 go_enter Try.func65, Try.ntmps65
 go_wp2
 go_ret2
 exact ⟨rfl, rfl⟩
theorem knows_less : KnowsC 69 .less := by
 intro a b W
 by_cases c0 : a = b
 ·obtain ⟨k1, k2⟩ := knX_some (show knownZ .less a b = some 0 by simp only [knownZ]; (repeat' split) <;> first | rfl | (exfalso; omega) | (congr 1; omega))
  rw [k1, k2]
  have q0 : (a == b) = true := by simpa using c0
  clear k1 k2
  subst c0
  go_enter Try.func69, Try.ntmps69
  go_wp2
  go_ret2
  exact ⟨rfl, rfl⟩
 have q0 : (a == b) = false := by simpa using c0
 by_cases c1 : a = 0
 ·obtain ⟨k1, k2⟩ := knX_some (show knownZ .less a b = some 0 by simp only [knownZ]; (repeat' split) <;> first | rfl | (exfalso; omega) | (congr 1; omega))
  rw [k1, k2]
  have q1 : (a == 0) = true := by simpa using c1
  clear k1 k2
  subst c1
  go_enter Try.func69, Try.ntmps69
  go_wp2
  go_ret2
  exact ⟨rfl, rfl⟩
 have q1 : (a == 0) = false := by simpa using c1
 by_cases c2 : b = 0
 ·obtain ⟨k1, k2⟩ := knX_some (show knownZ .less a b = some a by simp only [knownZ]; (repeat' split) <;> first | rfl | (exfalso; omega) | (congr 1; omega))
  rw [k1, k2]
  have q2 : (b == 0) = true := by simpa using c2
  clear k1 k2
  subst c2
  go_enter Try.func69, Try.ntmps69
  go_wp2
  go_ret2
  exact ⟨rfl, rfl⟩
 have q2 : (b == 0) = false := by simpa using c2
 obtain ⟨k1, k2⟩ := knX_none (show knownZ .less a b = none by simp only [knownZ]; (repeat' split) <;> first | rfl | (exfalso; omega) | (congr 1; omega))
 rw [k1, k2]
 clear k1 k2
 rw [if_neg (by decide)]
 go_enter Try.func69, Try.ntmps69
 go_wp2
 go_ret2
 exact ⟨rfl, rfl⟩
theorem knows_join : KnowsC 71 .join := by
 intro a b W
 by_cases c0 : a = 0
 ·obtain ⟨k1, k2⟩ := knX_some (show knownZ .join a b = some a by simp only [knownZ]; (repeat' split) <;> first | rfl | (exfalso; omega) | (congr 1; omega))
  rw [k1, k2]
  have q0 : (a == 0) = true := by simpa using c0
  clear k1 k2
  subst c0
  go_enter Try.func71, Try.ntmps71
  go_wp2
  go_ret2
  exact ⟨rfl, rfl⟩
 have q0 : (a == 0) = false := by simpa using c0
 by_cases c1 : b = 1
 ·obtain ⟨k1, k2⟩ := knX_some (show knownZ .join a b = some a by simp only [knownZ]; (repeat' split) <;> first | rfl | (exfalso; omega) | (congr 1; omega))
  rw [k1, k2]
  have q1 : (b == 1) = true := by simpa using c1
  clear k1 k2
  subst c1
  go_enter Try.func71, Try.ntmps71
  go_wp2
  go_ret2
  exact ⟨rfl, rfl⟩
 have q1 : (b == 1) = false := by simpa using c1
 by_cases c2 : b = 0
 ·obtain ⟨k1, k2⟩ := knX_some (show knownZ .join a b = some b by simp only [knownZ]; (repeat' split) <;> first | rfl | (exfalso; omega) | (congr 1; omega))
  rw [k1, k2]
  have q2 : (b == 0) = true := by simpa using c2
  clear k1 k2
  subst c2
  go_enter Try.func71, Try.ntmps71
  go_wp2
  go_ret2
  exact ⟨rfl, rfl⟩
 have q2 : (b == 0) = false := by simpa using c2
 by_cases c3 : a = 1
 ·obtain ⟨k1, k2⟩ := knX_some (show knownZ .join a b = some b by simp only [knownZ]; (repeat' split) <;> first | rfl | (exfalso; omega) | (congr 1; omega))
  rw [k1, k2]
  have q3 : (a == 1) = true := by simpa using c3
  clear k1 k2
  subst c3
  go_enter Try.func71, Try.ntmps71
  go_wp2
  go_ret2
  exact ⟨rfl, rfl⟩
 have q3 : (a == 1) = false := by simpa using c3
 obtain ⟨k1, k2⟩ := knX_none (show knownZ .join a b = none by simp only [knownZ]; (repeat' split) <;> first | rfl | (exfalso; omega) | (congr 1; omega))
 rw [k1, k2]
 clear k1 k2
 rw [if_neg (by decide)]
 go_enter Try.func71, Try.ntmps71
 go_wp2
 go_ret2
 exact ⟨rfl, rfl⟩
theorem knows_without : KnowsC 83 .without := by
 intro a b W
 by_cases c0 : a = b
 ·obtain ⟨k1, k2⟩ := knX_some (show knownZ .without a b = some 0 by simp only [knownZ]; (repeat' split) <;> first | rfl | (exfalso; omega) | (congr 1; omega))
  rw [k1, k2]
  have q0 : (a == b) = true := by simpa using c0
  clear k1 k2
  subst c0
  go_enter Try.func83, Try.ntmps83
  go_wp2
  go_ret2
  exact ⟨rfl, rfl⟩
 have q0 : (a == b) = false := by simpa using c0
 by_cases c1 : a = 0
 ·obtain ⟨k1, k2⟩ := knX_some (show knownZ .without a b = some 0 by simp only [knownZ]; (repeat' split) <;> first | rfl | (exfalso; omega) | (congr 1; omega))
  rw [k1, k2]
  have q1 : (a == 0) = true := by simpa using c1
  clear k1 k2
  subst c1
  go_enter Try.func83, Try.ntmps83
  go_wp2
  go_ret2
  exact ⟨rfl, rfl⟩
 have q1 : (a == 0) = false := by simpa using c1
 by_cases c2 : b = 1
 ·obtain ⟨k1, k2⟩ := knX_some (show knownZ .without a b = some 0 by simp only [knownZ]; (repeat' split) <;> first | rfl | (exfalso; omega) | (congr 1; omega))
  rw [k1, k2]
  have q2 : (b == 1) = true := by simpa using c2
  clear k1 k2
  subst c2
  go_enter Try.func83, Try.ntmps83
  go_wp2
  go_ret2
  exact ⟨rfl, rfl⟩
 have q2 : (b == 1) = false := by simpa using c2
 by_cases c3 : b = 0
 ·obtain ⟨k1, k2⟩ := knX_some (show knownZ .without a b = some a by simp only [knownZ]; (repeat' split) <;> first | rfl | (exfalso; omega) | (congr 1; omega))
  rw [k1, k2]
  have q3 : (b == 0) = true := by simpa using c3
  clear k1 k2
  subst c3
  go_enter Try.func83, Try.ntmps83
  go_wp2
  go_ret2
  exact ⟨rfl, rfl⟩
 have q3 : (b == 0) = false := by simpa using c3
 obtain ⟨k1, k2⟩ := knX_none (show knownZ .without a b = none by simp only [knownZ]; (repeat' split) <;> first | rfl | (exfalso; omega) | (congr 1; omega))
 rw [k1, k2]
 clear k1 k2
 rw [if_neg (by decide)]
 go_enter Try.func83, Try.ntmps83
 go_wp2
 go_ret2
 exact ⟨rfl, rfl⟩
theorem knows_least : KnowsC 76 .least := by
 intro a b W
 by_cases c0 : a = 0
 ·obtain ⟨k1, k2⟩ := knX_some (show knownZ .least a b = some a by simp only [knownZ]; (repeat' split) <;> first | rfl | (exfalso; omega) | (congr 1; omega))
  rw [k1, k2]
  have q0 : (a == 0) = true := by simpa using c0
  clear k1 k2
  subst c0
  go_enter Try.func76, Try.ntmps76
  go_wp2
  go_ret2
  exact ⟨rfl, rfl⟩
 have q0 : (a == 0) = false := by simpa using c0
 by_cases c1 : a = 1
 ·obtain ⟨k1, k2⟩ := knX_some (show knownZ .least a b = some a by simp only [knownZ]; (repeat' split) <;> first | rfl | (exfalso; omega) | (congr 1; omega))
  rw [k1, k2]
  have q1 : (a == 1) = true := by simpa using c1
  clear k1 k2
  subst c1
  go_enter Try.func76, Try.ntmps76
  go_wp2
  go_ret2
  exact ⟨rfl, rfl⟩
 have q1 : (a == 1) = false := by simpa using c1
 obtain ⟨k1, k2⟩ := knX_none (show knownZ .least a b = none by simp only [knownZ]; (repeat' split) <;> first | rfl | (exfalso; omega) | (congr 1; omega))
 rw [k1, k2]
 clear k1 k2
 rw [if_pos rfl]
 go_enter Try.func76, Try.ntmps76
 go_wp2
 go_ret2
 exact ⟨rfl, rfl⟩
theorem knows_hits : KnowsC 60 .hits := by
 intro a b W
 by_cases c0 : a = 0
 ·obtain ⟨k1, k2⟩ := knX_some (show knownZ .hits a b = some 1 by simp only [knownZ]; (repeat' split) <;> first | rfl | (exfalso; omega) | (congr 1; omega))
  rw [k1, k2]
  have q0 : (a == 0) = true := by simpa using c0
  clear k1 k2
  subst c0
  go_enter Try.func60, Try.ntmps60
  go_wp2
  go_ret2
  exact ⟨rfl, rfl⟩
 have q0 : (a == 0) = false := by simpa using c0
 by_cases c1 : a = 1
 ·obtain ⟨k1, k2⟩ := knX_some (show knownZ .hits a b = some 0 by simp only [knownZ]; (repeat' split) <;> first | rfl | (exfalso; omega) | (congr 1; omega))
  rw [k1, k2]
  have q1 : (a == 1) = true := by simpa using c1
  clear k1 k2
  subst c1
  go_enter Try.func60, Try.ntmps60
  go_wp2
  go_ret2
  exact ⟨rfl, rfl⟩
 have q1 : (a == 1) = false := by simpa using c1
 obtain ⟨k1, k2⟩ := knX_none (show knownZ .hits a b = none by simp only [knownZ]; (repeat' split) <;> first | rfl | (exfalso; omega) | (congr 1; omega))
 rw [k1, k2]
 clear k1 k2
 rw [if_neg (by decide)]
 go_enter Try.func60, Try.ntmps60
 go_wp2
 go_ret2
 exact ⟨rfl, rfl⟩
end Go.Proofs.Ytbklgjmkdhinpaa.Fm
