/- A range's text is read as that range; two of the same text are the same. (Plain.) -/
import Derived.Test.YtmhophccdfmngaaGreatDoorSvText
import Derived.Test.YtmhophccdfmngaaGreatDoorSvSplit
namespace Go.Proofs.YtmhophccdfmngaaGreatDoor
open Go.RowKit Go.Shelf Sv
def cutL (m : List UInt8) : Nat -> List UInt8 -> List (List UInt8)
 | 0, l => [l]
 | f + 1, l => if Lib.index l m < 0 then [l] else l.take (Lib.index l m).toNat :: cutL m f (l.drop ((Lib.index l m).toNat + m.length))
theorem ext_end (s : ByteArray) (k : Nat) : (s.extract k s.size).data.toList = s.data.toList.drop k := by
 rw [ext_list', List.take_of_length_le (by rw [Array.length_toList]; exact Nat.le_refl _)]
theorem cut_list (s m : ByteArray) : ∀ (f k : Nat), (cutB s m f k).map (fun x => x.2.data.toList) = cutL m.data.toList f (s.data.toList.drop k) := by
 intro f
 induction f with
 | zero => intro k; simp only [cutB, cutL, List.map_cons, List.map_nil, ext_end]
 | succ f ih =>
  intro k
  rw [cutB, cutL, ext_end]
  split
  ·simp only [List.map_cons, List.map_nil, ext_end]
  ·rw [List.map_cons, ih, List.drop_drop]
   congr 1
   ·rw [ext_list']
    rw [List.drop_take]
    congr 1
    omega
   ·congr 2
    have : m.data.toList.length = m.size := by rw [Array.length_toList]; rfl
    omega
theorem cutL_none {m l : List UInt8} (h : Lib.index l m < 0) : ∀ f, cutL m f l = [l]
 | 0 => rfl
 | f + 1 => by rw [cutL, if_pos h]
theorem cutL_first {m x y : List UInt8} (h : Lib.index (x ++ (m ++ y)) m = (x.length : Int)) (f : Nat) : cutL m (f + 1) (x ++ (m ++ y)) = x :: cutL m f y := by
 rw [cutL, if_neg (by omega), h]
 simp only [Int.toNat_natCast, List.take_left]
 congr 2
 rw [<- List.append_assoc, show x.length + m.length = (x ++ m).length by simp, List.drop_left]
theorem index_first2 {c : UInt8} {y : List UInt8} : ∀ {x : List UInt8}, c ∉ x -> Lib.index (x ++ c :: c :: y) [c, c] = (x.length : Int) := by
 intro x
 induction x with
 | nil => intro _; unfold Lib.index; simp [List.isPrefixOf]
 | cons b x ih =>
  intro h
  have hb : ¬ c = b := fun e => h (by simp [e])
  have hp : List.isPrefixOf [c, c] (b :: (x ++ c :: c :: y)) = false := by simp [List.isPrefixOf, hb]
  rw [List.cons_append]
  unfold Lib.index
  rw [hp, ih (fun e => h (by simp [e]))]
  simp
theorem cut_join1 (c : UInt8) : ∀ (ps : List (List UInt8)) (f : Nat), ps ≠ [] -> (∀ p ∈ ps, c ∉ p) -> ps.length <= f + 1 -> cutL [c] f (Lib.join ps [c]) = ps := by
 intro ps
 induction ps with
 | nil => intro f h; exact absurd rfl h
 | cons p r ih =>
  intro f _ hc hf
  cases r with
  | nil => rw [Lib.join_one]; exact cutL_none (index_none (hc p (by simp))) f
  | cons q r =>
   obtain ⟨f, rfl⟩ : ∃ g, f = g + 1 := ⟨f - 1, by simp at hf; omega⟩
   have e : Lib.join (p :: q :: r) [c] = p ++ ([c] ++ Lib.join (q :: r) [c]) := by rw [Lib.join_cons, Lib.join_cons]; simp [Lib.joinTail]
   rw [e, cutL_first (index_first (hc p (by simp))) f, ih f (by simp) (fun x hx => hc x (by simp [hx])) (by simp at hf ⊢; omega)]
theorem cut_join2 (c : UInt8) : ∀ (ps : List (List UInt8)) (f : Nat), ps ≠ [] -> (∀ p ∈ ps, c ∉ p) -> ps.length <= f + 1 -> cutL [c, c] f (Lib.join ps [c, c]) = ps := by
 intro ps
 induction ps with
 | nil => intro f h; exact absurd rfl h
 | cons p r ih =>
  intro f _ hc hf
  cases r with
  | nil => rw [Lib.join_one]; exact cutL_none (index_none2 (hc p (by simp))) f
  | cons q r =>
   obtain ⟨f, rfl⟩ : ∃ g, f = g + 1 := ⟨f - 1, by simp at hf; omega⟩
   have e : Lib.join (p :: q :: r) [c, c] = p ++ ([c, c] ++ Lib.join (q :: r) [c, c]) := by rw [Lib.join_cons, Lib.join_cons]; simp [Lib.joinTail]
   rw [e, cutL_first (index_first2 (hc p (by simp))) f, ih f (by simp) (fun x hx => hc x (by simp [hx])) (by simp at hf ⊢; omega)]
theorem join_long (c : UInt8) : ∀ ps : List (List UInt8), ps.length <= (Lib.join ps [c]).length + 1 := by
 intro ps
 cases ps with
 | nil => simp
 | cons p r => rw [Lib.join_length]; simp only [List.length_cons, List.length_nil]; omega
theorem join_long2 (c : UInt8) : ∀ ps : List (List UInt8), ps.length <= (Lib.join ps [c, c]).length + 1 := by
 intro ps
 cases ps with
 | nil => simp
 | cons p r => rw [Lib.join_length]; simp only [List.length_cons, List.length_nil]; omega
def wsF : List (List UInt8) -> List Span -> List Span
 | [], acc => acc
 | p :: r, acc => wsF r (if p = [] then acc else match wordF ⟨p.toArray⟩ with
  | .ok l => nd acc l
  | .error _ => acc)
theorem words_wsF : ∀ (L : List (Nat × ByteArray)) (st : List Span × Nat), (∀ x ∈ L, x.2.data.toList ≠ [] -> ∃ l, wordF x.2 = .ok l) -> ∃ n, wordsF L st = .ok (wsF (L.map fun x => x.2.data.toList) st.1, n) /\ (st.2 <= n) /\ ((∃ x ∈ L, x.2.data.toList ≠ []) -> 0 < n) := by
 intro L
 induction L with
 | nil => intro st _; exact ⟨st.2, rfl, Nat.le_refl _, fun ⟨x, hx, _⟩ => by cases hx⟩
 | cons x L ih =>
  intro st h
  have htl : x.2.toList = x.2.data.toList := ByteArray.toList_eq _
  rw [wordsF, List.map_cons, wsF]
  by_cases hx : x.2.data.toList = []
  ·rw [if_pos (by rw [htl]; exact hx), if_pos hx]
   obtain ⟨n, h1, h2, h3⟩ := ih st (fun y hy => h y (List.mem_cons_of_mem _ hy))
   refine ⟨n, h1, h2, fun ⟨y, hy, hne⟩ => ?_⟩
   rcases List.mem_cons.1 hy with rfl | hy
   ·exact absurd hx hne
   ·exact h3 ⟨y, hy, hne⟩
  ·rw [if_neg (by rw [htl]; exact hx), if_neg hx]
   obtain ⟨l, hl⟩ := h x (by simp) hx
   have hb : (⟨x.2.data.toList.toArray⟩ : ByteArray) = x.2 := by simp
   rw [hb, hl]
   obtain ⟨n, h1, h2, _⟩ := ih (nd st.1 l, st.2 + 1) (fun y hy => h y (List.mem_cons_of_mem _ hy))
   exact ⟨n, h1, by simp only at h2; omega, fun _ => by simp only at h2; omega⟩
theorem piece_words (ws : List (List UInt8)) (p : Nat) (hne : ws ≠ []) (h32 : ∀ w ∈ ws, (32 : UInt8) ∉ w) (hok : ∀ w ∈ ws, w ≠ [] -> ∃ l, wordF ⟨w.toArray⟩ = .ok l) (hs : ∃ w ∈ ws, w ≠ []) : pieceF ⟨(Lib.join ws [32]).toArray⟩ p = .ok (wsF ws anyF) := by
 have hc := cut_list ⟨(Lib.join ws [32]).toArray⟩ ⟨#[32]⟩ (⟨(Lib.join ws [32]).toArray⟩ : ByteArray).size 0
 have hsz : (⟨(Lib.join ws [32]).toArray⟩ : ByteArray).size = (Lib.join ws [32]).length := by show (Lib.join ws [32]).toArray.size = _; simp
 rw [List.drop_zero, hsz, cut_join1 32 ws _ hne h32 (join_long 32 ws)] at hc
 unfold pieceF
 rw [hsz]
 generalize cutB ⟨(Lib.join ws [32]).toArray⟩ ⟨#[32]⟩ (Lib.join ws [32]).length 0 = L at *
 have hmem : ∀ x ∈ L, x.2.data.toList ∈ ws := fun x hx => by rw [<- hc]; exact List.mem_map_of_mem hx
 obtain ⟨n, h1, _, h3⟩ := words_wsF L (anyF, 0) (fun x hx hn => by
  obtain ⟨l, hl⟩ := hok _ (hmem x hx) hn
  exact ⟨l, by rw [<- hl]⟩)
 rw [h1]
 have hn : n ≠ 0 := by
  obtain ⟨w, hw, hwn⟩ := hs
  rw [<- hc] at hw
  obtain ⟨x, hx, rfl⟩ := List.mem_map.1 hw
  have := h3 ⟨x, hx, hwn⟩
  omega
 simp only
 rw [if_neg hn, hc]
theorem num_vnx {n : Nat} : numN (n / 1000000) (n / 1000 % 1000) (n % 1000) = n := by unfold numN; omega
theorem vnx_word {g : List UInt8} (hg : Sign g) {n : Nat} (h : n < ALL) : wordF ⟨(g ++ vnx n).toArray⟩ = signF g (n / 1000000) (n / 1000 % 1000) (n % 1000) := by
 unfold ALL at h
 exact word_tells hg (by omega) (by omega) (by omega)
theorem sign_nil : Sign [] := fun x hx => by cases hx
theorem sign_ge' : Sign [62, 61] := fun x hx => by simp at hx; rcases hx with rfl | rfl <;> decide
theorem sign_lt' : Sign [60] := fun x hx => by simp at hx; subst hx; decide
theorem w_one {n : Nat} (h : n < ALL) : wordF ⟨(vnx n).toArray⟩ = .ok [(n, n + 1)] := by
 have := vnx_word sign_nil h
 rw [List.nil_append] at this
 rw [this]
 show Except.ok (rowF _ _) = _
 rw [num_vnx]; unfold rowF; rw [if_pos (by omega)]
theorem w_ge {n : Nat} (h : n < ALL) : wordF ⟨(62 :: 61 :: vnx n).toArray⟩ = .ok [(n, ALL)] := by
 have := vnx_word sign_ge' h
 rw [show [62, 61] ++ vnx n = 62 :: 61 :: vnx n from rfl] at this
 rw [this]
 show Except.ok (rowF _ _) = _
 rw [num_vnx]; unfold rowF; rw [if_pos h]
theorem w_lt {n : Nat} (h : n < ALL) (h0 : 0 < n) : wordF ⟨(60 :: vnx n).toArray⟩ = .ok [(0, n)] := by
 have := vnx_word sign_lt' h
 rw [show [60] ++ vnx n = 60 :: vnx n from rfl] at this
 rw [this]
 show Except.ok (rowF _ _) = _
 rw [num_vnx]; unfold rowF; rw [if_pos h0]
theorem w_any : wordF ⟨#[97, 110, 121]⟩ = .ok anyF := by
 unfold wordF
 rw [if_pos (by rw [ByteArray.toList_eq])]
theorem vnx_no {n : Nat} (h : n < ALL) {c : UInt8} (hc : c < 46 \/ 57 < c) : c ∉ vnx n := by
 unfold ALL at h
 have pa := ptx_ok (n := n / 1000000) (by omega)
 have pb := ptx_ok (n := n / 1000 % 1000) (by omega)
 have pc := ptx_ok (n := n % 1000) (by omega)
 have hx' : c < 48 \/ 57 < c := hc.imp (fun h => UInt8.lt_trans h (by decide)) id
 have h46 : ¬ c = 46 := fun e => by subst e; revert hc; decide
 unfold vnx vtx
 intro hm
 simp only [List.mem_append, List.mem_cons] at hm
 rcases hm with h | h | h | h | h
 ·exact pa.not hx' h
 ·exact h46 h
 ·exact pb.not hx' h
 ·exact h46 h
 ·exact pc.not hx' h
theorem vnx_ne {n : Nat} : vnx n ≠ [] := by unfold vnx vtx; simp
theorem nd_any {l : List Span} (h : Rg l) : nd anyF l = l :=
 rg_ext (rg_nd rg_any h) h fun n => by
  rw [mem_nd rg_any h, mem_any]
  exact ⟨fun h => h.2, fun h' => ⟨h.lt h', h'⟩⟩
theorem rg_one {x y : Nat} (h : x < y) (h2 : y <= ALL) : Rg [(x, y)] := ⟨Nat.zero_le _, h, h2, trivial⟩
theorem mem_one {x y n : Nat} : mem [(x, y)] n ↔ x <= n /\ n < y := by rw [mem_cons]; simp [mem_nil]
def wordsT (s : Span) : List (List UInt8) :=
 if s.2 = s.1 + 1 then [vnx s.1]
 else if s.1 = 0 /\ s.2 = ALL then [[97, 110, 121]]
 else if s.2 = ALL then [62 :: 61 :: vnx s.1]
 else if s.1 = 0 then [60 :: vnx s.2]
 else [62 :: 61 :: vnx s.1, 60 :: vnx s.2]
structure WordsOk (s : Span) (ws : List (List UInt8)) : Prop where
 ne : ws ≠ []
 txt : Lib.join ws [32] = spanT s
 no32 : ∀ w ∈ ws, (32 : UInt8) ∉ w
 no124 : ∀ w ∈ ws, (124 : UInt8) ∉ w
 full : ∀ w ∈ ws, w ≠ []
 ok : ∀ w ∈ ws, ∃ l, wordF ⟨w.toArray⟩ = .ok l
 tells : wsF ws anyF = [s]
theorem words_ok {s : Span} (h1 : s.1 < s.2) (h2 : s.2 <= ALL) : WordsOk s (wordsT s) := by
 obtain ⟨x, y⟩ := s
 simp only at h1 h2
 have hx : x < ALL := by omega
 have n32 : ∀ n, n < ALL -> (32 : UInt8) ∉ vnx n := fun n h => vnx_no h (.inl (by decide))
 have n124 : ∀ n, n < ALL -> (124 : UInt8) ∉ vnx n := fun n h => vnx_no h (.inr (by decide))
 unfold wordsT
 by_cases a1 : y = x + 1
 ·rw [if_pos a1]
  refine ⟨by simp, ?_, fun w hw => ?_, fun w hw => ?_, fun w hw => ?_, fun w hw => ?_, ?_⟩
  ·rw [Lib.join_one]; unfold spanT; rw [if_pos a1]
  ·simp at hw; subst hw; exact n32 x hx
  ·simp at hw; subst hw; exact n124 x hx
  ·simp at hw; subst hw; exact vnx_ne
  ·simp at hw; subst hw; exact ⟨_, w_one hx⟩
  ·unfold wsF wsF; rw [if_neg vnx_ne, w_one hx]
   simp only
   rw [nd_any (rg_one (by omega) (by omega)), a1]
 rw [if_neg a1]
 by_cases a2 : x = 0 /\ y = ALL
 ·rw [if_pos a2]
  refine ⟨by simp, ?_, fun w hw => ?_, fun w hw => ?_, fun w hw => ?_, fun w hw => ?_, ?_⟩
  ·rw [Lib.join_one]; unfold spanT; rw [if_neg a1, if_pos a2]
  ·simp at hw; subst hw; decide
  ·simp at hw; subst hw; decide
  ·simp at hw; subst hw; decide
  ·simp at hw; subst hw; exact ⟨_, w_any⟩
  ·unfold wsF wsF; rw [if_neg (by decide), show (⟨[97, 110, 121].toArray⟩ : ByteArray) = ⟨#[97, 110, 121]⟩ from rfl, w_any]
   simp only
   rw [nd_any rg_any, a2.1, a2.2]; rfl
 rw [if_neg a2]
 by_cases a3 : y = ALL
 ·rw [if_pos a3]
  have hne : (62 :: 61 :: vnx x : List UInt8) ≠ [] := by simp
  refine ⟨by simp, ?_, fun w hw => ?_, fun w hw => ?_, fun w hw => ?_, fun w hw => ?_, ?_⟩
  ·rw [Lib.join_one]; unfold spanT; rw [if_neg a1, if_neg a2, if_pos a3]
  ·simp only [List.mem_singleton] at hw; subst hw; have := n32 x hx; simp [this]
  ·simp only [List.mem_singleton] at hw; subst hw; have := n124 x hx; simp [this]
  ·simp only [List.mem_singleton] at hw; subst hw; exact hne
  ·simp only [List.mem_singleton] at hw; subst hw; exact ⟨_, w_ge hx⟩
  ·unfold wsF wsF; rw [if_neg hne, w_ge hx]
   simp only
   rw [nd_any (rg_one hx (Nat.le_refl _)), a3]
 rw [if_neg a3]
 have hy : y < ALL := by omega
 by_cases a4 : x = 0
 ·rw [if_pos a4]
  have hne : (60 :: vnx y : List UInt8) ≠ [] := by simp
  refine ⟨by simp, ?_, fun w hw => ?_, fun w hw => ?_, fun w hw => ?_, fun w hw => ?_, ?_⟩
  ·rw [Lib.join_one]; unfold spanT; rw [if_neg a1, if_neg a2, if_neg a3, if_pos a4]
  ·simp only [List.mem_singleton] at hw; subst hw; have := n32 y hy; simp [this]
  ·simp only [List.mem_singleton] at hw; subst hw; have := n124 y hy; simp [this]
  ·simp only [List.mem_singleton] at hw; subst hw; exact hne
  ·simp only [List.mem_singleton] at hw; subst hw; exact ⟨_, w_lt hy (by omega)⟩
  ·unfold wsF wsF; rw [if_neg hne, w_lt hy (by omega)]
   simp only
   rw [nd_any (rg_one (by omega) (by omega)), a4]
 rw [if_neg a4]
 have hne1 : (62 :: 61 :: vnx x : List UInt8) ≠ [] := by simp
 have hne2 : (60 :: vnx y : List UInt8) ≠ [] := by simp
 refine ⟨by simp, ?_, fun w hw => ?_, fun w hw => ?_, fun w hw => ?_, fun w hw => ?_, ?_⟩
 ·unfold spanT; rw [if_neg a1, if_neg a2, if_neg a3, if_neg a4, Lib.join_cons]; simp [Lib.joinTail]
 ·simp only [List.mem_cons, List.not_mem_nil, or_false] at hw
  rcases hw with rfl | rfl
  ·have := n32 x hx; simp [this]
  ·have := n32 y hy; simp [this]
 ·simp only [List.mem_cons, List.not_mem_nil, or_false] at hw
  rcases hw with rfl | rfl
  ·have := n124 x hx; simp [this]
  ·have := n124 y hy; simp [this]
 ·simp only [List.mem_cons, List.not_mem_nil, or_false] at hw
  rcases hw with rfl | rfl
  ·exact hne1
  ·exact hne2
 ·simp only [List.mem_cons, List.not_mem_nil, or_false] at hw
  rcases hw with rfl | rfl
  ·exact ⟨_, w_ge hx⟩
  ·exact ⟨_, w_lt hy (by omega)⟩
 ·unfold wsF wsF wsF; rw [if_neg hne1, w_ge hx, if_neg hne2, w_lt hy (by omega)]
  simp only
  rw [nd_any (rg_one hx (Nat.le_refl _))]
  exact rg_ext (rg_nd (rg_one hx (Nat.le_refl _)) (rg_one (by omega) (by omega))) (rg_one h1 h2) fun n => by
   rw [mem_nd (rg_one hx (Nat.le_refl _)) (rg_one (by omega) (by omega)), mem_one, mem_one, mem_one]; omega
theorem wsF_app (a b : List (List UInt8)) : ∀ acc, wsF (a ++ b) acc = wsF b (wsF a acc) := by
 induction a with
 | nil => intro acc; rfl
 | cons p r ih => intro acc; rw [List.cons_append, wsF, wsF, ih]
def pre (b : Bool) : List (List UInt8) := if b then [[]] else []
theorem piece_ok {s : Span} (h1 : s.1 < s.2) (h2 : s.2 <= ALL) (a b : Bool) (p : Nat) : pieceF ⟨(Lib.join (pre a ++ (wordsT s ++ pre b)) [32]).toArray⟩ p = .ok [s] := by
 have W := words_ok h1 h2
 have hm : ∀ w ∈ pre a ++ (wordsT s ++ pre b), w = [] \/ w ∈ wordsT s := fun w hw => by
  rcases List.mem_append.1 hw with h | h
  ·left; cases a <;> simp [pre] at h; exact h
  ·rcases List.mem_append.1 h with h | h
   ·exact Or.inr h
   ·left; cases b <;> simp [pre] at h; exact h
 obtain ⟨w0, hw0⟩ := List.exists_mem_of_ne_nil _ W.ne
 rw [piece_words _ p (fun e => by have := congrArg List.length e; have h3 := W.ne; simp at this; exact h3 this.2.1) (fun w hw => by
   rcases hm w hw with rfl | h
   ·simp
   ·exact W.no32 w h) (fun w hw hn => by
   rcases hm w hw with rfl | h
   ·exact absurd rfl hn
   ·exact W.ok w h) ⟨w0, by simp [hw0], W.full w0 hw0⟩]
 congr 1
 rw [wsF_app, wsF_app]
 have e1 : wsF (pre a) anyF = anyF := by cases a <;> simp [pre, wsF]
 rw [e1, W.tells]
 cases b <;> simp [pre, wsF]
def pcs : Bool -> List Span -> List (List UInt8)
 | _, [] => []
 | a, [s] => [Lib.join (pre a ++ (wordsT s ++ pre false)) [32]]
 | a, s :: t :: r => Lib.join (pre a ++ (wordsT s ++ pre true)) [32] :: pcs true (t :: r)
theorem join_pre {ws : List (List UInt8)} (hne : ws ≠ []) (a b : Bool) : Lib.join (pre a ++ (ws ++ pre b)) [32] = (if a then [32] else []) ++ (Lib.join ws [32] ++ if b then [32] else []) := by
 have e1 : Lib.join (ws ++ pre b) [32] = Lib.join ws [32] ++ if b then [32] else [] := by
  cases b with
  | false => simp [pre]
  | true =>
   cases ws with
   | nil => exact absurd rfl hne
   | cons x r => rw [show (x :: r) ++ pre true = x :: (r ++ [[]]) from rfl, Lib.join_cons, Lib.join_cons]; simp [Lib.joinTail]
 cases a with
 | false => show Lib.join ([] ++ (ws ++ pre b)) [32] = [] ++ _; rw [List.nil_append, List.nil_append, e1]
 | true =>
  rw [<- e1]
  show Lib.join ([] :: (ws ++ pre b)) [32] = [32] ++ _
  cases hw : ws ++ pre b with
  | nil => simp at hw; exact absurd hw.1 hne
  | cons x r => rw [Lib.join_cons, Lib.join_cons]; simp [Lib.joinTail]
theorem pcs_join : ∀ (l : List Span) (a : Bool) (lo : Nat), Canon lo l -> l ≠ [] -> Lib.join (pcs a l) [124, 124] = (if a then [32] else []) ++ Lib.join (l.map spanT) sepT := by
 intro l
 induction l with
 | nil => intro a lo _ h; exact absurd rfl h
 | cons s r ih =>
  intro a lo hc _
  have W := words_ok hc.2.1 hc.2.2.1
  cases r with
  | nil => rw [pcs, Lib.join_one, join_pre W.ne, W.txt]; simp [Lib.join_one]
  | cons t r =>
   rw [pcs, join_pre W.ne, W.txt]
   have e : ∀ (x : List UInt8) (q : List (List UInt8)) (m : List UInt8), q ≠ [] -> Lib.join (x :: q) m = x ++ (m ++ Lib.join q m) := by
    intro x q m hq
    cases q with
    | nil => exact absurd rfl hq
    | cons y q => rw [Lib.join_cons, Lib.join_cons]; simp [Lib.joinTail]
   have hp : pcs true (t :: r) ≠ [] := by cases r <;> simp [pcs]
   have e2 : Lib.join ((s :: t :: r).map spanT) sepT = spanT s ++ (sepT ++ Lib.join ((t :: r).map spanT) sepT) := by rw [List.map_cons]; exact e _ _ _ (by simp)
   rw [e _ _ _ hp, ih true _ hc.2.2.2 (by simp), e2]
   simp [sepT]
theorem pcs_mem : ∀ (l : List Span) (a : Bool) (lo : Nat), Canon lo l -> ∀ p ∈ pcs a l, (124 : UInt8) ∉ p := by
 intro l
 induction l with
 | nil => intro a lo _ p hp; cases hp
 | cons s r ih =>
  intro a lo hc p hp
  have W := words_ok hc.2.1 hc.2.2.1
  have hj : ∀ a b, (124 : UInt8) ∉ Lib.join (pre a ++ (wordsT s ++ pre b)) [32] := by
   intro a b
   rw [join_pre W.ne, W.txt, <- W.txt]
   have hno : (124 : UInt8) ∉ Lib.join (wordsT s) [32] := by
    have gen : ∀ ws : List (List UInt8), (∀ w ∈ ws, (124 : UInt8) ∉ w) -> (124 : UInt8) ∉ Lib.join ws [32] := by
     intro ws
     cases ws with
     | nil => intro _; simp [Lib.join_nil]
     | cons x q =>
      intro h
      rw [Lib.join_cons, List.mem_append]
      rintro (h1 | h1)
      ·exact h x (by simp) h1
      ·simp only [Lib.joinTail, List.mem_flatten, List.mem_map] at h1
       obtain ⟨z, ⟨w, hw, rfl⟩, hz⟩ := h1
       rcases List.mem_append.1 hz with h2 | h2
       ·revert h2; decide
       ·exact h w (by simp [hw]) h2
    exact gen _ W.no124
   cases a <;> cases b <;> simp [hno]
  cases r with
  | nil => rw [pcs] at hp; simp only [List.mem_singleton] at hp; subst hp; exact hj _ _
  | cons t r =>
   rw [pcs] at hp
   rcases List.mem_cons.1 hp with rfl | hp
   ·exact hj _ _
   ·exact ih true _ hc.2.2.2 p hp
theorem canon_app {a : List Span} : ∀ {lo : Nat} {b : List Span}, Canon lo (a ++ b) -> Canon lo a := by
 induction a with
 | nil => intro lo b _; trivial
 | cons s a ih => intro lo b h; exact ⟨h.1, h.2.1, h.2.2.1, ih h.2.2.2⟩
theorem mem_app {a b : List Span} {n : Nat} : mem (a ++ b) n ↔ mem a n \/ mem b n := by
 induction a with
 | nil => simp [mem_nil]
 | cons s a ih => rw [List.cons_append, mem_cons, mem_cons, ih, or_assoc]
theorem orr_snoc {a : List Span} {s : Span} (h : Rg (a ++ [s])) (h1 : s.1 < s.2) (h2 : s.2 <= ALL) : orr a [s] = a ++ [s] := by
 have ha : Rg a := canon_app h
 have hs : Rg [s] := ⟨Nat.zero_le _, h1, h2, trivial⟩
 exact rg_ext (rg_orr ha hs) h fun n => by rw [mem_orr ha hs, mem_app]
theorem canon_mem : ∀ {l : List Span} {lo : Nat}, Canon lo l -> ∀ s ∈ l, s.1 < s.2 /\ s.2 <= ALL := by
 intro l
 induction l with
 | nil => intro lo _ s hs; cases hs
 | cons t l ih =>
  intro lo h s hs
  rcases List.mem_cons.1 hs with rfl | hs
  ·exact ⟨h.2.1, h.2.2.1⟩
  ·exact ih h.2.2.2 s hs
theorem pieces_ok : ∀ (l : List Span) (a : Bool) (L : List (Nat × ByteArray)) (acc : List Span), Rg (acc ++ l) -> L.map (fun x => x.2.data.toList) = pcs a l -> piecesF L acc = .ok (acc ++ l) := by
 intro l
 induction l with
 | nil =>
  intro a L acc _ h
  have : L = [] := by cases L with
   | nil => rfl
   | cons x L => simp [pcs] at h
  subst this
  simp [piecesF]
 | cons s r ih =>
  intro a L acc hr h
  obtain ⟨h1, h2⟩ := canon_mem hr s (by simp)
  have hr1 : Rg (acc ++ [s]) := canon_app (b := r) (by simpa using hr)
  cases L with
  | nil => cases r <;> simp [pcs] at h
  | cons x L =>
   rw [piecesF]
   have hx : ∃ b, x.2 = ⟨(Lib.join (pre a ++ (wordsT s ++ pre b)) [32]).toArray⟩ /\ L.map (fun x => x.2.data.toList) = pcs true r := by
    cases r with
    | nil =>
     rw [pcs, List.map_cons] at h
     injection h with h3 h4
     exact ⟨false, bytes_of h3, by rw [h4]; rfl⟩
    | cons t r =>
     rw [pcs, List.map_cons] at h
     injection h with h3 h4
     exact ⟨true, bytes_of h3, h4⟩
   obtain ⟨b, e1, e2⟩ := hx
   rw [e1, piece_ok h1 h2]
   simp only
   rw [orr_snoc hr1 h1 h2, ih true L (acc ++ [s]) (by simpa using hr) e2]
   simp
theorem range_text {l : List Span} (hl : Rg l) : rangeF ⟨(rgT l).toArray⟩ = .ok l := by
 by_cases hz : l = []
 ·subst hz
  show rangeF ⟨#[110, 111, 110, 101]⟩ = .ok []
  kernel_rfl
 ·have e : rgT l = Lib.join (pcs false l) [124, 124] := by
   rw [pcs_join l false 0 hl hz]
   unfold rgT
   rw [if_neg hz]; rfl
  unfold rangeF
  rw [e]
  have hsz : (⟨(Lib.join (pcs false l) [124, 124]).toArray⟩ : ByteArray).size = (Lib.join (pcs false l) [124, 124]).length := by show (Lib.join (pcs false l) [124, 124]).toArray.size = _; simp
  have hc := cut_list ⟨(Lib.join (pcs false l) [124, 124]).toArray⟩ ⟨#[124, 124]⟩ (⟨(Lib.join (pcs false l) [124, 124]).toArray⟩ : ByteArray).size 0
  have hp : pcs false l ≠ [] := by
   cases l with
   | nil => exact absurd rfl hz
   | cons s r => cases r <;> simp [pcs]
  rw [List.drop_zero, hsz, cut_join2 124 _ _ hp (pcs_mem l false 0 hl) (join_long2 124 _)] at hc
  rw [hsz]
  have := pieces_ok l false _ [] (by simpa using hl) hc
  simpa using this
end Go.Proofs.YtmhophccdfmngaaGreatDoor
