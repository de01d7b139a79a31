/- What a sign and a version's text tell, plain. -/
import Derived.Test.YthpeifkiaodokaaGreatDoorSvRange
namespace Go.Proofs.YthpeifkiaodokaaGreatDoor
open Go.RowKit Go.Shelf Sv

theorem index_none {c : UInt8} : ∀ {l : List UInt8}, c ∉ l → Lib.index l [c] < 0 := by
  intro l h
  rcases index_byte l c with ⟨h1, _⟩ | ⟨j, _, h2⟩
  · exact h1
  · have := List.count_eq_zero.2 h
    omega
theorem index_first {c : UInt8} {y : List UInt8} : ∀ {x : List UInt8}, c ∉ x → Lib.index (x ++ c :: y) [c] = (x.length : Int) := by
  intro x
  induction x with
  | nil => intro _; unfold Lib.index; simp [List.isPrefixOf]
  | cons b x ih =>
    intro h
    have hb : ¬ c = b := fun e => h (by simp [e])
    have hp : List.isPrefixOf [c] (b :: (x ++ c :: y)) = false := by simp [List.isPrefixOf, hb]
    rw [List.cons_append]
    unfold Lib.index
    rw [hp, ih (fun e => h (by simp [e]))]
    simp
theorem index_none2 {c d : UInt8} : ∀ {l : List UInt8}, c ∉ l → Lib.index l [c, d] < 0 := by
  intro l
  induction l with
  | nil => intro _; simp [Lib.index]
  | cons b l ih =>
    intro h
    have hb : ¬ c = b := fun e => h (by simp [e])
    have hp : List.isPrefixOf [c, d] (b :: l) = false := by simp [List.isPrefixOf, hb]
    have : Lib.index l [c, d] = -1 := by
      have h1 := Lib.index_ge l [c, d]
      have h2 := ih (fun e => h (by simp [e]))
      omega
    unfold Lib.index
    rw [hp, this]; simp

/-- A part's text. -/
def ptx (n : Nat) : List UInt8 := Lib.itoa (n : Int)
def okPart (n : Nat) : Bool := (match partF (ptx n) with
  | .ok m => m == n
  | _ => false) && (ptx n).all (fun x => decide (48 ≤ x) && decide (x ≤ 57)) && !(ptx n).isEmpty && decide ((ptx n).length ≤ 3)
theorem okParts : ∀ n : Fin 1000, okPart n.val = true := by decide +kernel
structure PartOk (n : Nat) : Prop where
  tells : partF (ptx n) = .ok n
  digit : ∀ x ∈ ptx n, 48 ≤ x ∧ x ≤ 57
  some : ptx n ≠ []
  short : (ptx n).length ≤ 3
theorem ptx_ok {n : Nat} (h : n ≤ 999) : PartOk n := by
  have h1 := okParts ⟨n, by omega⟩
  unfold okPart at h1
  simp only [Bool.and_eq_true, List.all_eq_true, decide_eq_true_eq, Bool.not_eq_true', List.isEmpty_eq_false_iff] at h1
  obtain ⟨⟨⟨h2, h3⟩, h4⟩, h5⟩ := h1
  refine ⟨?_, h3, h4, h5⟩
  split at h2
  · rename_i m hm; rw [hm]; simp only [beq_iff_eq] at h2; rw [h2]
  · cases h2
theorem PartOk.not {n : Nat} (h : PartOk n) {c : UInt8} (hc : c < 48 ∨ 57 < c) : c ∉ ptx n := fun e => by
  have := h.digit c e
  rcases hc with hc | hc
  · exact absurd hc (UInt8.not_lt.2 this.1)
  · exact absurd hc (UInt8.not_lt.2 this.2)

/-- A version's text. -/
def vtx (a b c : Nat) : List UInt8 := ptx a ++ 46 :: (ptx b ++ 46 :: ptx c)
theorem bytes_of {s : ByteArray} {l : List UInt8} (h : s.data.toList = l) : s = ⟨l.toArray⟩ := by
  obtain ⟨d⟩ := s
  subst h
  simp
theorem ext_list (l : List UInt8) (i j : Nat) : ((⟨l.toArray⟩ : ByteArray).extract i j).data.toList = (l.take j).drop i := by
  rw [ByteArray.data_extract]; simp [List.take_drop]
  rcases Nat.le_total i j with h | h
  · rw [Nat.add_sub_cancel' h]
  · rw [List.drop_of_length_le (by simp; omega), List.drop_of_length_le (by simp; omega)]
theorem vers_tells {a b c : Nat} (ha : a ≤ 999) (hb : b ≤ 999) (hc : c ≤ 999) : versF ⟨(vtx a b c).toArray⟩ = .ok [a, b, c] := by
  have pa := ptx_ok ha
  have pb := ptx_ok hb
  have pc := ptx_ok hc
  have na := pa.not (c := 46) (.inl (by decide))
  have nb := pb.not (c := 46) (.inl (by decide))
  have nc := pc.not (c := 46) (.inl (by decide))
  have hcnt : (vtx a b c).count 46 = 2 := by
    unfold vtx
    simp [List.count_append, List.count_eq_zero.2 na, List.count_eq_zero.2 nb, List.count_eq_zero.2 nc]
  have hsz : (⟨(vtx a b c).toArray⟩ : ByteArray).size = (ptx a).length + ((ptx b).length + ((ptx c).length + 1) + 1) := by
    show (vtx a b c).toArray.size = _
    simp [vtx]
    try omega
  have e0 : ((⟨(vtx a b c).toArray⟩ : ByteArray).extract 0 (⟨(vtx a b c).toArray⟩ : ByteArray).size).data.toList = ptx a ++ 46 :: (ptx b ++ 46 :: ptx c) := by rw [Lib.extract_to_end]; simp [vtx]
  have e1 : ((⟨(vtx a b c).toArray⟩ : ByteArray).extract (0 + (ptx a).length + 1) (⟨(vtx a b c).toArray⟩ : ByteArray).size).data.toList = ptx b ++ 46 :: ptx c := by
    rw [Lib.extract_to_end]
    show (vtx a b c).drop _ = _
    unfold vtx
    rw [show 0 + (ptx a).length + 1 = (ptx a).length + 1 by omega, List.drop_append]
    simp
  have e2 : ((⟨(vtx a b c).toArray⟩ : ByteArray).extract (0 + (ptx a).length + 1 + (ptx b).length + 1) (⟨(vtx a b c).toArray⟩ : ByteArray).size).data.toList = ptx c := by
    rw [Lib.extract_to_end]
    show (vtx a b c).drop _ = _
    rw [show vtx a b c = (ptx a ++ 46 :: (ptx b ++ [46])) ++ ptx c by simp [vtx], show 0 + (ptx a).length + 1 + (ptx b).length + 1 = (ptx a ++ 46 :: (ptx b ++ [46])).length by simp; omega, List.drop_left]
  have f0 : ((⟨(vtx a b c).toArray⟩ : ByteArray).extract 0 (0 + (ptx a).length)).data.toList = ptx a := by
    rw [ext_list]; unfold vtx; simp
  have f1 : ((⟨(vtx a b c).toArray⟩ : ByteArray).extract (0 + (ptx a).length + 1) (0 + (ptx a).length + 1 + (ptx b).length)).data.toList = ptx b := by
    rw [ext_list, show vtx a b c = (ptx a ++ [46] ++ ptx b) ++ (46 :: ptx c) by simp [vtx], show 0 + (ptx a).length + 1 + (ptx b).length = (ptx a ++ [46] ++ ptx b).length by simp; omega, List.take_left, show 0 + (ptx a).length + 1 = (ptx a ++ [46]).length by simp, List.drop_left]
  unfold versF
  rw [if_pos hcnt, hsz]
  show partsF (cutB _ _ ((ptx a).length + ((ptx b).length + ((ptx c).length + 1) + 1)) 0) = _
  rw [show (ptx a).length + ((ptx b).length + ((ptx c).length + 1) + 1) = ((ptx a).length + (ptx b).length + (ptx c).length) + 1 + 1 by omega]
  rw [cutB_step (j := (ptx a).length) (by rw [e0]; exact index_first na)]
  rw [cutB_step (j := (ptx b).length) (by rw [show (⟨#[46]⟩ : ByteArray).size = 1 from rfl, e1]; exact index_first nb)]
  rw [show (⟨#[46]⟩ : ByteArray).size = 1 from rfl]
  rw [cutB_end (by rw [e2]; exact index_none nc)]
  simp only [partsF, f0, f1, e2, pa.tells, pb.tells, pc.tells]

/-- What may stand ahead of a version. -/
def Sign (g : List UInt8) : Prop := ∀ x ∈ g, marksB.data.toList.contains x = true
theorem trim_tells {g : List UInt8} (hg : Sign g) {a b c : Nat} (ha : a ≤ 999) : trimB ⟨(g ++ vtx a b c).toArray⟩ = ⟨(vtx a b c).toArray⟩ := by
  have pa := ptx_ok ha
  unfold trimB Lib.trimLeftS
  congr 2
  show List.dropWhile _ (g ++ vtx a b c) = _
  rw [List.dropWhile_append_of_pos hg]
  unfold vtx
  cases hp : ptx a with
  | nil => exact absurd hp pa.some
  | cons x r =>
    rw [List.cons_append, List.dropWhile_cons_of_neg]
    have hx := pa.digit x (by rw [hp]; simp)
    intro hm
    have hm' : x ∈ [61, 33, 60, 62, 94, 126] := by simpa [marksB] using hm
    simp only [List.mem_cons, List.not_mem_nil, or_false] at hm'
    rcases hm' with rfl | rfl | rfl | rfl | rfl | rfl <;> revert hx <;> decide
theorem word_tells {g : List UInt8} (hg : Sign g) {a b c : Nat} (ha : a ≤ 999) (hb : b ≤ 999) (hc : c ≤ 999) : wordF ⟨(g ++ vtx a b c).toArray⟩ = signF g a b c := by
  have hd : (46 : UInt8) ∈ g ++ vtx a b c := by simp [vtx]
  have hl : (⟨(g ++ vtx a b c).toArray⟩ : ByteArray).toList = g ++ vtx a b c := by rw [ByteArray.toList_eq]
  unfold wordF
  rw [if_neg (fun e => by rw [hl] at e; rw [e] at hd; revert hd; decide), if_neg (fun e => by rw [hl] at e; rw [e] at hd; revert hd; decide), trim_tells hg ha, vers_tells ha hb hc]
  show signF _ a b c = _
  congr 1
  rw [ByteArray.toList_eq, ext_list]
  show ((g ++ vtx a b c).take ((g ++ vtx a b c).toArray.size - (vtx a b c).toArray.size)).drop 0 = g
  simp
theorem orr_any {l : List Span} (h : Rg l) : orr [] (nd anyF l) = l :=
  rg_ext (rg_orr rg_nil (rg_nd rg_any h)) h fun n => by
    rw [mem_orr rg_nil (rg_nd rg_any h), mem_nd rg_any h, mem_any]
    have := h.lt (n := n)
    constructor
    · rintro (h | h)
      · exact absurd h (mem_nil n)
      · exact h.2
    · exact fun h => .inr ⟨this h, h⟩
theorem range_tells {g : List UInt8} (hg : Sign g) {a b c : Nat} (ha : a ≤ 999) (hb : b ≤ 999) (hc : c ≤ 999) {l : List Span} (hs : signF g a b c = .ok l) : rangeF ⟨(g ++ vtx a b c).toArray⟩ = .ok l := by
  have pa := ptx_ok ha
  have pb := ptx_ok hb
  have pc := ptx_ok hc
  have hno : ∀ x : UInt8, (x < 46 ∨ 57 < x) → marksB.data.toList.contains x = false → x ∉ g ++ vtx a b c := by
    intro x hx hm h
    rcases List.mem_append.1 h with h | h
    · rw [hg x h] at hm; cases hm
    · have hx' : x < 48 ∨ 57 < x := hx.imp (fun h => UInt8.lt_trans h (by decide)) id
      unfold vtx at h
      simp only [List.mem_append, List.mem_cons] at h
      have h46 : ¬ x = 46 := fun e => by subst e; revert hx; decide
      rcases h with h | h | h | h | h
      · exact pa.not hx' h
      · exact h46 h
      · exact pb.not hx' h
      · exact h46 h
      · exact pc.not hx' h
  have h124 := hno 124 (.inr (by decide)) (by decide)
  have h32 := hno 32 (.inl (by decide)) (by decide)
  generalize hL : g ++ vtx a b c = L at *
  have hall : ((⟨L.toArray⟩ : ByteArray).extract 0 (⟨L.toArray⟩ : ByteArray).size).data.toList = L := by rw [Lib.extract_to_end]; simp
  have hself : (⟨L.toArray⟩ : ByteArray).extract 0 (⟨L.toArray⟩ : ByteArray).size = ⟨L.toArray⟩ := bytes_of hall
  have hne : (⟨L.toArray⟩ : ByteArray).toList ≠ [] := by
    rw [ByteArray.toList_eq, ← hL]; simp [vtx]
  have hw : wordF ⟨L.toArray⟩ = .ok l := by rw [← hL, word_tells hg ha hb hc]; exact hs
  have hr := wordF_rg hw
  unfold rangeF
  rw [cutB_end (by rw [hall]; exact index_none2 h124), hself, piecesF]
  unfold pieceF
  rw [cutB_end (by rw [hall]; exact index_none h32), hself, wordsF, if_neg hne, hw]
  show Except.ok (orr [] (nd anyF l)) = _
  rw [orr_any hr]
end Go.Proofs.YthpeifkiaodokaaGreatDoor
