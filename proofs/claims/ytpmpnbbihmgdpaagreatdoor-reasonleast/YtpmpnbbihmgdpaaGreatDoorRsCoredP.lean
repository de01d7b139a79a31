/- The text of a catalog of two lines that can't be together: plain. -/
import Derived.Test.YtpmpnbbihmgdpaaGreatDoorClTold
import Derived.Test.YtpmpnbbihmgdpaaGreatDoorRsPlain
set_option maxRecDepth 100000
namespace Go.Proofs.YtpmpnbbihmgdpaaGreatDoor
open Go.RowKit Go.Deep Sv
def corT : ByteArray := ⟨#[112, 97, 99, 107, 97, 103, 101, 32, 97, 32, 49, 46, 48, 46, 48, 10, 114, 111, 111, 116, 32, 97, 32, 97, 110, 121, 10, 99, 108, 97, 115, 104, 101, 115, 32, 97, 32, 49, 46, 48, 46, 48, 32, 97, 32, 97, 110, 121, 10]⟩
theorem cor_lns : lnsF corT 49 0 = [(0, ⟨#[112, 97, 99, 107, 97, 103, 101, 32, 97, 32, 49, 46, 48, 46, 48]⟩), (16, ⟨#[114, 111, 111, 116, 32, 97, 32, 97, 110, 121]⟩), (27, ⟨#[99, 108, 97, 115, 104, 101, 115, 32, 97, 32, 49, 46, 48, 46, 48, 32, 97, 32, 97, 110, 121]⟩)] := by kernel_rfl
theorem cor_l3 : lineF ⟨#[99, 108, 97, 115, 104, 101, 115, 32, 97, 32, 49, 46, 48, 46, 48, 32, 97, 32, 97, 110, 121]⟩ = .ok ⟨3, nmA, 1, 0, 0, nmA, [(0, 1000000000)]⟩ := by kernel_rfl
def corL : List Ln := [⟨1, nmA, 1, 0, 0, nmN, []⟩, ⟨4, nmA, 0, 0, 0, nmN, [(0, 1000000000)]⟩, ⟨3, nmA, 1, 0, 0, nmA, [(0, 1000000000)]⟩]
def corI : List It := [⟨nmA, 1, 0, 0⟩]
theorem cor_c3 : ctCheck ⟨3, nmA, 1, 0, 0, nmA, [(0, 1000000000)]⟩ = 0 := by
 unfold ctCheck
 rw [if_neg (by simp), if_neg (fun h => by rcases h with h | ⟨_, h⟩; exact h nmA_ok; exact h nmA_ok), if_neg (fun h => h.1 (Or.inr rfl)), if_neg (by simp), if_neg (by simp), if_neg (by simp [InV])]
theorem cor_gath : gathF corL 0 [] = .ok [⟨nmA, 1, 0, 0⟩] := by
 unfold corL
 rw [gathF, if_neg (by rw [one_c1]; simp), if_pos rfl, if_neg (by simp), if_neg (show ¬ (8 < namesN ([] ++ [Ln.it ⟨1, nmA, 1, 0, 0, nmN, []⟩]) \/ ([] : List It).length = 24) from one_n1)]
 rw [gathF, if_neg (by rw [one_c3]; simp), if_neg (by simp)]
 rw [gathF, if_neg (by rw [cor_c3]; simp), if_neg (by simp), gathF]
 rfl
theorem cor_sort : sortF [⟨nmA, 1, 0, 0⟩] = corI := by
 unfold sortF corI
 rw [List.mergeSort]
theorem cor_miss : missF corL 0 corI = none := by kernel_rfl
theorem cor_new : newF corL = .ok corI := by
 unfold newF
 rw [if_neg (by decide), cor_gath]
 simp only [cor_sort, cor_miss]
theorem cor_pl : plF (lnsF corT 49 0) [] = .ok [(0, ⟨1, nmA, 1, 0, 0, nmN, []⟩), (16, ⟨4, nmA, 0, 0, 0, nmN, [(0, 1000000000)]⟩), (27, ⟨3, nmA, 1, 0, 0, nmA, [(0, 1000000000)]⟩)] := by
 rw [cor_lns, plF, one_l1]
 simp only [plF, one_l3, cor_l3]
 rfl
theorem cor_parse : parseF corT = .ok (corL, corI) := by
 unfold parseF
 rw [if_neg (by decide), show corT.size = 49 from rfl, cor_pl]
 have h := cor_new
 unfold corL at h
 simp only [List.map_cons, List.map_nil, h]
 rfl
theorem cor_has0 : hasF [(0, 1000000000)] (corI.getD 0 default) := by
 refine ⟨by simp [corI, InV], ?_⟩
 simp [corI, mem, numV]
theorem cor_row : ctRow corI nmA = (0, 1) := by kernel_rfl
theorem cor_among : amongF corI nmA [(0, 1000000000)] = [0] := by
 unfold amongF
 rw [cor_row]
 show List.filter _ [0] = [0]
 rw [List.filter_cons, if_pos (by simpa using cor_has0)]
 rfl
theorem cor_pr : prF corI 1 = [] := by kernel_rfl
theorem cor_numb : ctNumb corI ⟨nmA, 1, 0, 0⟩ = 0 := by kernel_rfl
theorem cor_of : ofL corI corL = [(1, [1]), (2, [-1, -1])] := by
 unfold ofL
 rw [show corI.length = 1 from rfl, cor_pr, show corL.length = 3 from rfl]
 have h0 : lineC corI 0 (corL.getD 0 default) = [] := by unfold lineC; rw [if_neg (by decide), if_neg (by decide), if_neg (by decide)]
 have h1 : lineC corI 1 (corL.getD 1 default) = [(1, [1])] := by
  unfold lineC
  rw [if_pos (by decide)]
  show [(((1 : Nat) : Int), (amongF corI nmA [(0, 1000000000)]).map fun (k : Nat) => ((k : Int) + 1))] = _
  rw [cor_among]
  rfl
 have h2 : lineC corI 2 (corL.getD 2 default) = [(2, [-1, -1])] := by
  unfold lineC
  rw [if_neg (by decide), if_neg (by decide), if_pos (by decide)]
  show (amongF corI nmA [(0, 1000000000)]).map (fun (k : Nat) => (((2 : Nat) : Int), [notF1 (ctNumb corI ⟨nmA, 1, 0, 0⟩), notF1 (k : Int)])) = _
  rw [cor_among, cor_numb]
  rfl
 rw [lnL_succ, lnL_succ, lnL_succ, h0, h1, h2]
 rfl
noncomputable def canL (ls : List Ln) (its : List It) (l : List Nat) : Bool := satB (ctOnly (ofL its ls) (inF ls.length l))
theorem canL_mono (ls : List Ln) (its : List It) (a b : List Nat) (h : ∀ x ∈ a, x ∈ b) (hb : canL ls its b = true) : canL ls its a = true := satB_sub (only_sub h) hb
theorem cor_said : saidF corL = [1, 2] := by kernel_rfl
theorem cor_all : canL corL corI [1, 2] = false := by
 unfold canL
 rw [cor_of, show ctOnly [(1, [1]), (2, [-1, -1])] (inF corL.length [1, 2]) = [[1], [-1, -1]] by decide]
 refine satB_false.2 fun v hv => ?_
 obtain ⟨x, hx, h1⟩ := hv [1] (by simp)
 obtain ⟨y, hy, h2⟩ := hv [-1, -1] (by simp)
 obtain rfl : x = 1 := by simpa using hx
 obtain rfl : y = -1 := by simpa using hy
 rw [litH_neg' (by decide), h1] at h2
 cases h2
theorem cor_1 : canL corL corI [1] = true := by
 unfold canL
 rw [cor_of, show ctOnly [(1, [1]), (2, [-1, -1])] (inF corL.length [1]) = [[1]] by decide]
 refine satB_true.2 ⟨1, fun c hc => ?_⟩
 obtain rfl : c = [1] := by simpa using hc
 exact ⟨1, by simp, by decide⟩
theorem cor_2 : canL corL corI [2] = true := by
 unfold canL
 rw [cor_of, show ctOnly [(1, [1]), (2, [-1, -1])] (inF corL.length [2]) = [[-1, -1]] by decide]
 refine satB_true.2 ⟨0, fun c hc => ?_⟩
 obtain rfl : c = [-1, -1] := by simpa using hc
 exact ⟨-1, by simp, by decide⟩
theorem cor_core : coreGo (canL corL corI) (saidF corL).length (saidF corL) = [1, 2] := by
 rw [cor_said]
 show coreGo (canL corL corI) 2 [1, 2] = [1, 2]
 simp [coreGo, cor_1, cor_2]
end Go.Proofs.YtpmpnbbihmgdpaaGreatDoor
