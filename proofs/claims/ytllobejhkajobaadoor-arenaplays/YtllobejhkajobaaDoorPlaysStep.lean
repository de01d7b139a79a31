/- The arena and the reference play together: what each step leaves. -/
import Derived.Test.YtllobejhkajobaaDoorPlaysEnds
import Derived.Test.YtllobejhkajobaaDoorArPut
namespace Go.Proofs.YtllobejhkajobaaDoor
open Go.RowKit Go.Maps Go.Sort

structure Play (B : Nat) (w : World) (b bm : Nat) (v : Value) (ns : List Nd) (L : List (Nd × Int)) (room next : Int) (rb rm : Nat) (RL : List (Int × Nd)) : Prop where
  arena : ArenaAt B w b bm v ns L room next
  ref : RefAt B w rb rm ns RL room
  ranked : Ranked ns
  book : Book ns L
  next : ∃ i : Nat, next = 2 + (i : Int) ∧ i ≤ ns.length ∧ ∀ j, j < i → (nd ns j).v < 24
  o1 : ¬ Own b bm v rb
  o2 : ¬ Own b bm v rm

/-- They play, with at most c places. -/
def Plays (B b rb : Nat) (room : Int) (c : Nat) (w : World) : Prop := ∃ bm v ns L next rm RL, Play B w b bm v ns L room next rb rm RL ∧ ns.length ≤ c

section
variable {B b bm rb rm : Nat} {w w' : World} {v : Value} {ns : List Nd} {L : List (Nd × Int)} {RL : List (Int × Nd)} {room next : Int}

theorem own_lt (hA : ArenaAt B w b bm v ns L room next) : ∀ k, Own b bm v k → B ≤ k ∧ k < w.heap.size := by
  obtain ⟨D, hD, -⟩ := hA.hmap
  have hbm := hD.lt
  rintro k (rfl | rfl | h)
  · exact ⟨hA.B1, hA.lt⟩
  · exact ⟨hA.B2, hbm⟩
  · exact hA.row.lt k h
theorem RefAt.rmlt (h : RefAt B w rb rm ns RL room) : rm < w.heap.size := by obtain ⟨D, hD, -⟩ := h.hmap; exact hD.lt

theorem Play.new (h : Play B w b bm v ns L room next rb rm RL) (hb : Below w.heap.size w w') : Play B w' b bm v ns L room next rb rm RL :=
  ⟨h.arena.kept (Kept.of_below hb (fun _ => False)) (fun _ _ h => h), h.ref.new hb, h.ranked, h.book, h.next, h.o1, h.o2⟩
theorem Plays.new {c : Nat} (h : Plays B b rb room c w) (hb : Below w.heap.size w w') : Plays B b rb room c w' := by
  obtain ⟨bm, v, ns, L, next, rm, RL, h, hc⟩ := h
  exact ⟨bm, v, ns, L, next, rm, RL, h.new hb, hc⟩
theorem Plays.more {c d : Nat} (h : Plays B b rb room c w) (hd : c ≤ d) : Plays B b rb room d w := by
  obtain ⟨bm, v, ns, L, next, rm, RL, h, hc⟩ := h
  exact ⟨bm, v, ns, L, next, rm, RL, h, by omega⟩
theorem Play.lens (h : Play B w b bm v ns L room next rb rm RL) : L.length = RL.length := by
  obtain ⟨D, -, hR⟩ := h.ref.hmap
  rw [book_len h.book, rbook_len h.ref.book hR.nodup]
theorem taken_le (ns : List Nd) : (taken ns).length ≤ ns.length := by
  unfold taken
  exact Nat.le_trans (List.length_filter_le _ _) (by simp)

/-- The contract of the reference's step, and what is there behind it. -/
def RefDoes (B b rb : Nat) (room : Int) (c : Nat) (F : FuncId) (args : Array Value) (r : Value) (w1 : World) : Prop :=
  ∀ w2, Below w1.heap.size w1 w2 → Calls Tryd.prog F args w2 fun e w3 => e = .returned r ∧ Below B w2 w3 ∧ Plays B b rb room c w3

def MakeOut (B b bm rb : Nat) (v : Value) (room : Int) (c : Nat) (n : Nd) (w : World) (e : Ending) (w1 : World) : Prop :=
  ∃ h m : Int, e = .returned (.tuple #[.int .i64 h, errOf m]) ∧ Kept (Own b bm v) w w1 ∧ RefDoes B b rb room (c + 1) 7 #[.pointer (some ⟨rb, 0, none⟩), n.val] (.tuple #[.int .i64 h, .int .i64 m]) w1

theorem make_both {c : Nat} {m : Int} {h : Int} (hP : Play B w b bm v ns L room next rb rm RL) (hl : ns.length ≤ c) (hB : B ≤ w.heap.size) (n : Nd)
    (h1 : Calls Tryd.prog 6 #[.pointer (some ⟨b, 0, none⟩), n.val] w fun e w' => e = .returned (.tuple #[.int .i64 h, errOf m]) ∧ Below w.heap.size w w')
    (h2 : ∀ w2, RefAt B w2 rb rm ns RL room → Calls Tryd.prog 7 #[.pointer (some ⟨rb, 0, none⟩), n.val] w2 fun e w' => e = .returned (.tuple #[.int .i64 h, .int .i64 m]) ∧ Below w2.heap.size w2 w') :
    Calls Tryd.prog 6 #[.pointer (some ⟨b, 0, none⟩), n.val] w (MakeOut B b bm rb v room c n w) := by
  refine h1.mono fun e w1 ⟨he, hb⟩ => ⟨h, m, he, Kept.of_below hb _, fun w2 hb2 => ?_⟩
  have hs := hb.size
  have hP2 := (hP.new hb).new hb2
  refine (h2 w2 hP2.ref).mono fun e w3 ⟨he, hb3⟩ => ⟨he, hb3.mono (by have := hb2.size; omega), bm, v, ns, L, next, rm, RL, hP2.new hb3, by omega⟩

/-- The law's 'bare', of what Make told. -/
theorem bare_same (m : Int) (w : World) (hg : Glob w) : Calls Tryd.prog 5 #[errOf m, .int .i64 m] w fun e w' => e = .returned (.bool true) ∧ Below w.heap.size w w' := by
  have := bare_core m m (-1) (errOf m) w (fun W hW => place_any m W (hg.below hW))
  simpa using this

/-- The room that both have. -/
theorem plays_start {room : Int} {w w1 : World} (hA : ArenaAt w.heap.size w1 (w.heap.size + 1) w.heap.size (.slice none 0 0) [] [] room 2) (hb : Below w.heap.size w w1) :
    Plays w.heap.size (w.heap.size + 1) (w1.heap.size + 1) room 0 ((w1.alloc (.map #[] 0)).alloc (.cells #[.int .i64 room, .map (some w1.heap.size)] 33)) := by
  have hs := hb.size
  have e1 : (w1.alloc (.map #[] 0)).heap.size = w1.heap.size + 1 := by simp
  have hm : ((w1.alloc (.map #[] 0)).alloc (.cells #[.int .i64 room, .map (some w1.heap.size)] 33)).ownsMap Tryd.prog 3 ndElem w1.heap.size 0 (.map []) := (World.ownsMap_made w1 _ _ _).alloc _
  have hA2 := (hA.kept (Kept.alloc (fun _ => False) w1 (.map #[] 0)) (fun _ _ h => h)).kept (Kept.alloc (fun _ => False) _ (.cells #[.int .i64 room, .map (some w1.heap.size)] 33)) (fun _ _ h => h)
  have hlt := own_lt hA
  refine ⟨_, _, [], [], 2, w1.heap.size, [], ⟨hA2, ⟨by simp, ?_, ?_, ?_, ⟨_, hm, Rep.empty⟩, ⟨fun x n => by simp⟩, by omega, by omega, by omega⟩, ⟨fun j h => by simp at h, fun j h => by simp at h, fun j h => by simp at h, fun j h => by simp at h⟩, ⟨fun p h => by simp at h, fun j h => by simp at h, by simp, fun j h => by simp at h⟩, ⟨0, rfl, by simp, fun j h => by omega⟩, fun h => ?_, fun h => ?_⟩, by simp⟩
  · rw [← e1]; simp
  · rw [← e1]; simp
  · intro i; rw [← e1]; simp
  · have := (hlt _ h).2; omega
  · have := (hlt _ h).2; omega

theorem play_make {c : Nat} (hP : Play B w b bm v ns L room next rb rm RL) (hl : ns.length ≤ c) (hc : c ≤ 10000) (hB : B ≤ w.heap.size) (n : Nd) (hn : n.Ok) :
    Calls Tryd.prog 6 #[.pointer (some ⟨b, 0, none⟩), n.val] w (MakeOut B b bm rb v room c n w) := by
  have hl' : ns.length ≤ 1000000 := by omega
  have hl5 : ns.length ≤ 100000 := by omega
  have hLl : L.length ≤ 100000 := by rw [book_len hP.book]; have := taken_le ns; omega
  have hRl : RL.length ≤ 100000 := by rw [← hP.lens]; exact hLl
  by_cases c1 : n.v < 0 ∨ 24 ≤ n.v
  · exact make_both (m := 2) hP hl hB n (make_range n c1) (fun w2 _ => rmake_range n c1)
  by_cases c2 : hasB ns n.l = false ∨ hasB ns n.h = false
  · exact make_both (m := 7) hP hl hB n (make_missing hP.arena hl' n hn (by omega) (by omega) c2) (fun w2 h => rmake_missing h hP.ranked n hn (by omega) (by omega) c2)
  have hfl : hasB ns n.l = true := by simpa using (not_or.1 c2).1
  have hfh : hasB ns n.h = true := by simpa using (not_or.1 c2).2
  by_cases c3 : topOf ns n.l ≤ n.v ∨ topOf ns n.h ≤ n.v
  · exact make_both (m := 10) hP hl hB n (make_order hP.arena hl' n hn (by omega) (by omega) hfl hfh c3) (fun w2 h => rmake_order h hP.ranked n hn (by omega) (by omega) hfl hfh c3)
  have hf : Fit ns n := ⟨by omega, by omega, hfl, hfh, by omega, by omega⟩
  by_cases c4 : n ∈ L.map Prod.fst
  · obtain ⟨p, hp, rfl⟩ := List.mem_map.1 c4
    obtain ⟨i, hi, hv, rfl⟩ := hP.book.mem p hp
    refine make_both (m := 0) hP hl hB _ (make_found hP.arena hl' _ hn hf (2 + (i : Int)) hp) (fun w2 h => rmake_found h hP.ranked hl5 _ hn hf i hi rfl (fun j hj e => ?_))
    have hj2 := hP.book.all j hj (by rw [e]; exact hv)
    have := fst_unique hP.book.nodup hj2 hp e
    have := (Prod.mk.inj this).2
    omega
  have hnin : ∀ j, j < ns.length → (nd ns j).v < 24 → nd ns j ≠ n := fun j hj hv e => c4 (e ▸ List.mem_map_of_mem (hP.book.all j hj hv))
  by_cases c5 : room ≤ (L.length : Int)
  · exact make_both (m := 12) hP hl hB n (make_full hP.arena hl' n hn hf c4 c5) (fun w2 h => rmake_full h hP.ranked n hn hf hnin (by rw [← hP.lens]; exact c5))
  obtain ⟨i, hi1, hi2, hi3⟩ := hP.next
  refine (make_new hP.arena hl5 n hn hf c4 (by omega) hLl i hi1 hi2 hB).mono ?_
  rintro e w1 ⟨k, v', rfl, hk, hocc, hfree, hA1, hK1, hv1⟩
  refine ⟨2 + (k : Int), 0, rfl, hK1, fun w2 hb2 => ?_⟩
  have hR2 := (hP.ref.kept hK1 hP.o1 hP.o2).new hb2
  refine (rmake_new hR2 hP.ranked hl5 n hn hf hnin (by rw [← hP.lens]; omega) hRl).mono ?_
  rintro e w3 ⟨k', rfl, hk', hocc', hfree', hR3, hK3⟩
  have hkk : k' = k := by
    rcases Nat.lt_trichotomy k' k with h | h | h
    · have : (nd ns k').v < 24 := by
        by_cases hj : k' < i
        · exact hi3 k' hj
        · exact hocc k' (by omega) h
      exact absurd this (hfree' (by omega))
    · exact h
    · exact absurd (hocc' k h) (hfree (by omega))
  subst hkk
  have hv0 : ∀ j, v'.ownBlock = some j → v.ownBlock = some j ∨ w.heap.size ≤ j := fun j hj => by
    rcases hv1 with h | ⟨g, h, hg⟩
    · exact .inl (h ▸ hj)
    · exact .inr (by rw [h] at hj; cases hj; exact hg)
  have hrm := hP.ref.rmlt
  have hrb := hP.ref.lt
  have o1 : ¬ Own b bm v' rb := by
    rintro (h | h | h)
    · exact hP.o1 (.inl h)
    · exact hP.o1 (.inr (.inl h))
    · rcases hv0 rb h with h | h
      · exact hP.o1 (.inr (.inr h))
      · omega
  have o2 : ¬ Own b bm v' rm := by
    rintro (h | h | h)
    · exact hP.o2 (.inl h)
    · exact hP.o2 (.inr (.inl h))
    · rcases hv0 rm h with h | h
      · exact hP.o2 (.inr (.inr h))
      · omega
  have hA2 := hA1.kept (Kept.of_below hb2 (fun _ => False)) (fun _ _ h => h)
  have hA3 := hA2.kept hK3 (fun j hj e => o2 (e ▸ hj))
  have hs2 : B ≤ w2.heap.size := by have := hb2.size; have := hK1.size; omega
  refine ⟨rfl, hK3.below hs2 (fun j e => by rw [e]; exact hP.ref.B2), bm, v', putN ns k' n, L ++ [(n, 2 + (k' : Int))], 2 + (k' : Int), rm, RL ++ [(2 + (k' : Int), n)], ⟨hA3, hR3, putN_ranked hP.ranked hk hfree hn hf, putN_book hP.book hk hfree hf.v1 c4, ⟨k', rfl, ?_, fun j hj => ?_⟩, o1, o2⟩, ?_⟩
  · have := (putN_length (n := n) hk).2; omega
  · rw [putN_at hk j (by omega), if_neg (by omega)]; exact hocc' j hj
  · have := (putN_length (n := n) hk).1; omega

def SweepOut (B b bm rb : Nat) (v : Value) (room : Int) (c : Nat) (fs : List Int) (w : World) (e : Ending) (w1 : World) : Prop :=
  ∃ h : Int, e = .returned (.int .i64 h) ∧ Kept (Own b bm v) w w1 ∧ ∀ w2 bf2, Below w1.heap.size w1 w2 → IntsAt w2 bf2 fs → Calls Tryd.prog 12 #[.pointer (some ⟨rb, 0, none⟩), .slice (some ⟨bf2, 0, none⟩) fs.length fs.length] w2 fun e w3 => e = .returned (.int .i64 h) ∧ Kept (fun j => j = rb) w2 w3 ∧ Plays B b rb room c w3

theorem play_sweep {c : Nat} (hP : Play B w b bm v ns L room next rb rm RL) (hl : ns.length ≤ c) (hc : c ≤ 10000) (hB : B ≤ w.heap.size) (bf : Nat) (fs : List Int) (hF : IntsAt w bf fs) (hfl : fs.length ≤ 1000) :
    Calls Tryd.prog 11 #[.pointer (some ⟨b, 0, none⟩), .slice (some ⟨bf, 0, none⟩) fs.length fs.length] w (SweepOut B b bm rb v room c fs w) := by
  have hl5 : ns.length ≤ 100000 := by omega
  have hLl : L.length ≤ 100000 := by rw [book_len hP.book]; have := taken_le ns; omega
  have hRl : RL.length ≤ 100000 := by rw [← hP.lens]; exact hLl
  have hlen : (LTo L (marksOf ns fs) ns.length).length = (reachTo (marksOf ns fs) ns.length).length := by
    rw [book_len (swept_book hP.book), ← keptL_length ns, rbook_len (keptL_book (marksOf_real hP.ranked fs)) (by rw [keptL_fst]; exact reachTo_nodup _ _)]
  have hlt := own_lt hP.arena
  refine (sweep_any hP.ranked hP.book hl5 hP.arena bf fs hF hfl hB hLl).mono ?_
  rintro e w1 ⟨rfl, hA1, hK1⟩
  refine ⟨_, rfl, hK1, fun w2 bf2 hb2 hF2 => ?_⟩
  have hR2 := (hP.ref.kept hK1 hP.o1 hP.o2).new hb2
  refine (rsweep_any hP.ranked hl5 hR2 hRl bf2 fs hF2 hfl).mono ?_
  rintro e w3 ⟨nm, rfl, hnm, hR3, hK3⟩
  have hA2 := hA1.kept (Kept.of_below hb2 (fun _ => False)) (fun _ _ h => h)
  have hA3 := hA2.kept hK3 (fun j hj e => hP.o1 (e ▸ hj))
  have hs2 : w.heap.size ≤ w2.heap.size := by have := hb2.size; have := hK1.size; omega
  refine ⟨by rw [hlen, hP.lens], hK3, bm, v, swept ns (marksOf ns fs), _, 2, nm, _, ⟨hA3, hR3, swept_ranked_any hP.ranked fs, swept_book hP.book, ⟨0, rfl, Nat.zero_le _, fun j hj => by omega⟩, hP.o1, fun ho => ?_⟩, by rw [swept_length]; exact hl⟩
  have := (hlt nm ho).2
  omega
end
end Go.Proofs.YtllobejhkajobaaDoor
