/- Save: what it does not save. -/
import Derived.Test.YtcjjekhecjmaeaaGreatDoorBdWays
import Derived.Test.YtcjjekhecjmaeaaGreatDoorBdRec
import Derived.Test.YtcjjekhecjmaeaaGreatDoorBdJoined
import Derived.Test.YtcjjekhecjmaeaaGreatDoorCnTrim
import Derived.Test.YtcjjekhecjmaeaaGreatDoorBdErr
import Derived.Test.YtcjjekhecjmaeaaGreatDoorBdWithout
import Derived.Test.YtcjjekhecjmaeaaGreatDoorBdNode
import Derived.WalkSmall
import Derived.Test.YtcjjekhecjmaeaaGreatDoorBdFree
import Derived.Test.YtcjjekhecjmaeaaGreatDoorArDrop
import Derived.Test.YtcjjekhecjmaeaaGreatDoorImSave
set_option maxHeartbeats 2000000
set_option maxRecDepth 100000
namespace Go.Proofs.YtcjjekhecjmaeaaGreatDoor
section
open Go.RowKit Go.Maps Num
section
variable {w w' : World} {dk vars : Nat} {ns : List Nd} {L : List (Int × NV)}
end
structure BoxAt (w : World) (bx : Nat) : Prop where
 lt : bx < w.heap.size
 c : w.cell? ⟨bx, 0, none⟩ = some (.slice none 0 0)
 f : w.frozen? ⟨bx, 0, none⟩ = false
 no : ∀ o n, w.cell? ⟨bx, o, none⟩ ≠ some (.int .u64 n)
theorem BoxAt.kept {S : Nat -> Prop} {w w' : World} {bx : Nat} (h : BoxAt w bx) (hk : Kept S w w') (hn : ¬ S bx) : BoxAt w' bx :=
 ⟨Nat.lt_of_lt_of_le h.lt hk.size, (hk.cell (a := ⟨bx, 0, none⟩) h.lt hn).trans h.c, (hk.frozen (a := ⟨bx, 0, none⟩) h.lt hn).trans h.f, fun o n => by rw [hk.cell (a := ⟨bx, o, none⟩) h.lt hn]; exact h.no o n⟩
theorem BoxAt.new {w w' : World} {bx : Nat} (h : BoxAt w bx) (hb : Below w.heap.size w w') : BoxAt w' bx := h.kept (Kept.of_below hb (fun _ => False)) (fun h => h)
structure CS (B s b dk : Nat) (O : Nat -> Prop) (vars : Nat) (room : Int) (ns : List Nd) (W0 w : World) (nb bx : Nat) (gv gl gh : Int) (L : List (Int × NV)) : Prop where
 space : SpaceAt B w s b O vars room ns
 done : DoneN w dk vars ns L
 tri : Tri w nb gv gl gh
 box : BoxAt w bx
 kept : Kept (fun j => j = dk) W0 w
section
variable {B s b dk : Nat} {O : Nat -> Prop} {vars : Nat} {room : Int} {ns : List Nd} {W0 w w' : World} {nb bx : Nat} {gv gl gh : Int} {L : List (Int × NV)}
theorem CS.new (h : CS B s b dk O vars room ns W0 w nb bx gv gl gh L) (hb : Below w.heap.size w w') : CS B s b dk O vars room ns W0 w' nb bx gv gl gh L :=
 ⟨h.space.new hb, h.done.new hb, h.tri.new hb, h.box.new hb, h.kept.trans (Kept.of_below hb _)⟩
theorem CS.ways {d : Nat} (hW : WaysOk B s b dk O vars room ns d) (ho : ¬ O dk) (hs : s ≠ dk) (hn : nb ≠ dk) (hx : bx ≠ dk) (h : CS B s b dk O vars room ns W0 w nb bx gv gl gh L) (g : Int) (v : Nat) (hh : hasB ns g = true) (hd : 24 <= topOf ns g + d) (hv : v <= topN vars ns g) :
  Calls Tryz.prog 35 #[.pointer (some ⟨s, 0, none⟩), .int .i64 g, .int .i64 (v : Int), .map (some dk)] w fun e w' => ∃ r L', e = .returned r /\ NatAt w' r (waysN vars ns g v) /\ CS B s b dk O vars room ns W0 w' nb bx gv gl gh L' /\ Kept (fun j => j = dk) w w' := by
 refine (hW g v L w h.space h.done hh hd hv).mono ?_
 rintro e w2 ⟨r, L', he, hr, hD, hk⟩
 exact ⟨r, L', he, hr, ⟨h.space.kept hk (fun j hj e => ho (e ▸ hj)) hs, hD, h.tri.kept hk hn, h.box.kept hk hx, h.kept.trans hk⟩, hk⟩
theorem CS.add (h : CS B s b dk O vars room ns W0 w nb bx gv gl gh L) {r1 r2 : Value} {m1 m2 : Nat} (h1 : NatAt w r1 m1) (h2 : NatAt w r2 m2) (l1 : m1 <= 100000000) (l2 : m2 <= 100000000) :
  Calls Tryz.prog 109 #[r1, r2] w fun e w' => ∃ a n c, e = .returned (.agg #[.slice a n c]) /\ NatAt w' (.agg #[.slice a n c]) (m1 + m2) /\ CS B s b dk O vars room ns W0 w' nb bx gv gl gh L /\ Below w.heap.size w w' := by
 obtain ⟨s1, d1, rfl, g1, n1, v1, k1⟩ := h1.open l1
 obtain ⟨s2, d2, rfl, g2, n2, v2, k2⟩ := h2.open l2
 refine (add_any s1 s2 d1 d2 w g1 g2 n1.small n2.small (by omega) (by omega)).mono ?_
 rintro e w2 ⟨s3, he, d3, g3, n3, v3, -, hb⟩
 have hn := natAt_mk g3 n3 v3
 rw [v1, v2] at hn
 obtain ⟨a, c, e3, -⟩ := id g3
 subst e3
 exact ⟨a, _, c, he, hn, h.new hb, hb⟩
end
end
section
open Go.RowKit Go.Maps Num
section
variable {B s b dk : Nat} {O : Nat -> Prop} {vars : Nat} {room : Int} {ns : List Nd} {W0 w w' : World} {nb bx : Nat} {gv gl gh : Int} {L : List (Int × NV)}
def Summed (B s b dk : Nat) (O : Nat -> Prop) (vars : Nat) (room : Int) (ns : List Nd) (W0 : World) (nb bx : Nat) (gv gl gh : Int) (m : Nat) (pv : Value) (wx : World) : Prop :=
 ∃ bx2 a n c L3, pv = .pointer (some ⟨bx2, 0, none⟩) /\ wx.cell? ⟨bx2, 0, none⟩ = some (.slice a n c) /\ bx2 < wx.heap.size /\ bx2 ≠ dk /\ bx2 ≠ bx /\ NatAt wx (.agg #[.slice a n c]) m /\ CS B s b dk O vars room ns W0 wx nb bx gv gl gh L3
theorem CS.sum (h : CS B s b dk O vars room ns W0 w nb bx gv gl gh L) {bx2 : Nat} (hb : BoxAt w bx2) (h0 : W0.heap.size <= bx2) (hO : ∀ k, O k -> k < W0.heap.size) (hs : s < W0.heap.size) (hd : dk < W0.heap.size) (hn : bx2 ≠ nb) (hx : bx2 ≠ bx) {a : Option Addr} {n c m : Nat} (hm : NatAt w (.agg #[.slice a n c]) m) :
  Summed B s b dk O vars room ns W0 nb bx gv gl gh m (.pointer (some ⟨bx2, 0, none⟩)) (w.setCell ⟨bx2, 0, none⟩ (.slice a n c)) := by
 have hk : Kept (fun j => j = bx2) w (w.setCell ⟨bx2, 0, none⟩ (.slice a n c)) := Kept.setCell _ _ _ rfl
 refine ⟨bx2, a, n, c, L, rfl, World.cell?_setCell_same _ _ _ hb.c, Nat.lt_of_lt_of_le hb.lt hk.size, by omega, hx, hm.box hb.no _, ⟨h.space.kept hk (fun j hj e => by have := hO j hj; omega) (by omega), h.done.box hb.no (by omega) _, h.tri.kept hk (fun e => hn e.symm), h.box.kept hk (fun e => hx e.symm), h.kept.andThen hk (fun i hi hlt => by omega)⟩⟩
end
end
section
open Go.RowKit Go.Maps
structure ES (W0 w : World) (s b : Nat) (O : Nat -> Prop) (vars : Nat) (room : Int) : Prop where
 space : SpaceAt W0.heap.size w s b O vars room []
 below : Below W0.heap.size W0 w
 own : ∀ k, O k -> W0.heap.size <= k
def EOut (W0 : World) (s b vars : Nat) (room E : Int) (e : Ending) (w' : World) : Prop :=
 ∃ (v : Value) (O' : Nat -> Prop), e = .returned (.tuple #[v, errOf E]) /\ ES W0 w' s b O' vars room
theorem told {e : Ending} {v X : Value} {E : Int} (he : e = .returned (.tuple #[v, X])) (hX : errOf E = X) : ∃ v, e = .returned (.tuple #[v, errOf E]) := ⟨v, by rw [he, hX]⟩
theorem top_nil (x : Int) : topOf [] x = 24 := by
 by_cases h : topOf [] x = 24
 ·exact h
 ·have := (node_at h).2.1; simp at this
section
variable {W0 w w' : World} {s b : Nat} {O : Nat -> Prop} {vars : Nat} {room : Int}
theorem ES.new (h : ES W0 w s b O vars room) (hb : Below w.heap.size w w') : ES W0 w' s b O vars room := ⟨h.space.new hb, h.below.trans (hb.mono h.below.size), h.own⟩
theorem ES.fresh (h : ES W0 w s b O vars room) {F : FuncId} {args : Array Value} {E : Int} (hc : Calls Tryz.prog F args w fun e w' => (∃ v, e = .returned (.tuple #[v, errOf E])) /\ Below w.heap.size w w') : Calls Tryz.prog F args w (EOut W0 s b vars room E) :=
 hc.mono fun _ _ ⟨⟨v, he⟩, hb⟩ => ⟨v, O, he, h.new hb⟩
theorem ES.moved (h : ES W0 w s b O vars room) {F : FuncId} {args : Array Value} {x : Int} (hc : Calls Tryz.prog F args w (OpOut W0.heap.size s b O vars room ([], x) w)) : Calls Tryz.prog F args w (EOut W0 s b vars room 0) :=
 hc.mono fun _ _ ⟨he, O', hS, hM⟩ => ⟨_, O', he, hS, h.below.trans (hM.below h.below.size h.own), fun k hk => by
  rcases hM.own k hk with h1 | h1
  ·exact h.own k h1
  ·have := h.below.size; omega⟩
theorem ES.setE (h : ES W0 w s b O vars room) (x v : Int) (hi : I64 x) (is : Bool) : Calls Tryz.prog 68 #[.pointer (some ⟨s, 0, none⟩), .int .i64 x, .int .i64 v, .bool is] w (EOut W0 s b vars room (codeV vars [] x v)) :=
 h.fresh ((set_code h.space (by simp) x v hi (top_nil x) is).mono fun _ _ ⟨⟨r, he⟩, hb⟩ => ⟨⟨_, he⟩, hb⟩)
end
end
section
open Go.RowKit Go.Maps
section
variable {B s b wk dm : Nat} {O : Nat -> Prop} {vars : Nat} {room : Int} {ns : List Nd} {m : List (Nd × Int)} {w w' : World}
end
section
variable {W0 w w' : World} {s b : Nat} {O : Nat -> Prop} {vars : Nat} {room : Int}
theorem bare_code (E k : Int) (w : World) (hg : Glob w) : Calls Tryz.prog 20 #[errOf E, .int .i64 k] w fun e w' => e = .returned (.bool (E == k)) /\ Below w.heap.size w w' := by
 by_cases h : E = 0
 ·subst h; exact bare_nil k w
 ·unfold errOf
  rw [if_neg h]
  exact bare_errno E k w hg
end
end
section
open Go.RowKit Go.Maps
section
variable {A : Nat} {w : World} {s b : Nat} {O : Nat -> Prop} {vars : Nat} {room : Int} {ns : List Nd}
theorem save_nil (h : Int) (w : World) : Calls Tryz.prog 18 #[.pointer none, .int .i64 h] w fun e w' => e = .returned (.tuple #[.slice none 0 0, errOf 7]) /\ w = w' := by
 go_enter Tryz.func18, Tryz.ntmps18
 go_wp2_with fail
 go_ret2
 exact ⟨rfl, rfl⟩
theorem save_bad (hS : SpaceAt A w s b O vars room ns) (hl : ns.length <= 5000) (h : Int) (hi : I64 h) (hh : hasB ns h = false) :
  Calls Tryz.prog 18 #[.pointer (some ⟨s, 0, none⟩), .int .i64 h] w fun e w' => e = .returned (.tuple #[.slice none 0 0, errOf 7]) /\ w = w' := by
 have c0 := hS.c0
 have HH := Lib.hid (spHas hS h hi (by omega))
 rw [hh] at HH
 clear hS hh
 go_enter Tryz.func18, Tryz.ntmps18
 go_wp2_with fail
 refine HH.out.mono ?_
 rintro e w1 ⟨rfl, rfl⟩
 go_wp2_with fail
 go_ret2
 exact ⟨rfl, rfl⟩
end
end
end Go.Proofs.YtcjjekhecjmaeaaGreatDoor
