/- What a function makes of handles: of three ends at once, else by the least variable. -/
import Derived.Test.YtiihalknffbjpaaGreatDoorArDrop
import Derived.WalkSmall
set_option maxHeartbeats 4000000
set_option maxRecDepth 100000
namespace Go.Proofs.YtiihalknffbjpaaGreatDoor.Bd
open Go.RowKit Go.Maps
structure Book (ns:List Nd) (L:List (Nd × Int)):Prop where
  mem:∀ p ∈ L,∃ i:Nat,i<ns.length/\(nd ns i).v<24/\p=(nd ns i,2 + (i:Int))
  all:∀ i,i<ns.length->(nd ns i).v<24->(nd ns i,2 + (i:Int)) ∈ L
  nodup:(L.map Prod.fst).Nodup
  free:∀ i,i<ns.length->¬ (nd ns i).v<24->nd ns i=⟨24,0,0⟩
theorem nd_ext {a b:List Nd} (hl:a.length=b.length) (h:∀ i,i<a.length->nd a i=nd b i):a=b:=by
  apply List.ext_getElem hl
  intro i h1 h2
  have:=h i h1
  rwa [nd_at a i h1,nd_at b i h2] at this
theorem nd_set (ns:List Nd) (k:Nat) (n:Nd) (i:Nat) (h:k<ns.length):nd (ns.set k n) i=if i=k then n else nd ns i:=by
  unfold nd
  simp only [List.getD_eq_getElem?_getD,List.getElem?_set]
  by_cases e:k=i
  · subst e;simp [h]
  · rw [if_neg e,if_neg (fun h=>e h.symm)]
def sweptTo (ns:List Nd) (M:List Bool) (k:Nat):List Nd:=(List.range ns.length).map fun i=>if i<k/\mk M i=false then ⟨24,0,0⟩ else nd ns i
theorem sweptTo_length (ns:List Nd) (M:List Bool) (k:Nat):(sweptTo ns M k).length=ns.length:=by simp [sweptTo]
theorem sweptTo_at (ns:List Nd) (M:List Bool) (k i:Nat) (h:i<ns.length):nd (sweptTo ns M k) i=if i<k/\mk M i=false then ⟨24,0,0⟩ else nd ns i:=by
  rw [nd_at _ i (by rw [sweptTo_length];exact h)];simp [sweptTo]
theorem sweptTo_zero (ns:List Nd) (M:List Bool):sweptTo ns M 0=ns :=
  nd_ext (sweptTo_length _ _ _) (fun i h=>by rw [sweptTo_at ns M 0 i (by rwa [sweptTo_length] at h),if_neg (by omega)])
theorem sweptTo_end (ns:List Nd) (M:List Bool):sweptTo ns M ns.length=swept ns M :=
  nd_ext (by rw [sweptTo_length,swept_length]) (fun i h=>by
    rw [sweptTo_length] at h
    rw [sweptTo_at ns M _ i h,swept_at ns M i h]
    by_cases e:mk M i=true
    · rw [if_pos e,if_neg (by simp [e])]
    · rw [if_neg e,if_pos ⟨h,by simpa using e⟩])
theorem sweptTo_same {ns:List Nd} {M:List Bool} {k:Nat} (_hk:k<ns.length) (h:mk M k=true\/nd ns k=⟨24,0,0⟩):sweptTo ns M (k + 1)=sweptTo ns M k :=
  nd_ext (by rw [sweptTo_length,sweptTo_length]) (fun i hi=>by
    rw [sweptTo_length] at hi
    rw [sweptTo_at ns M _ i hi,sweptTo_at ns M _ i hi]
    by_cases e:i=k
    · subst e
      rw [if_neg (show ¬ (i<i/\mk M i=false) by omega)]
      rcases h with h | h
      · rw [if_neg (by simp [h])]
      · rw [h];split <;> rfl
    · by_cases e2:i<k/\mk M i=false
      · rw [if_pos e2,if_pos ⟨by omega,e2.2⟩]
      · rw [if_neg e2,if_neg (fun h=>e2 ⟨by omega,h.2⟩)])
theorem sweptTo_set {ns:List Nd} {M:List Bool} {k:Nat} (hk:k<ns.length) (h:mk M k=false):(sweptTo ns M k).set k ⟨24,0,0⟩=sweptTo ns M (k + 1) :=
  nd_ext (by rw [List.length_set,sweptTo_length,sweptTo_length]) (fun i hi=>by
    rw [List.length_set,sweptTo_length] at hi
    rw [nd_set _ _ _ _ (by rw [sweptTo_length];exact hk),sweptTo_at ns M _ i hi,sweptTo_at ns M _ i hi]
    by_cases e:i=k
    · subst e;rw [if_pos rfl,if_pos ⟨by omega,h⟩]
    · rw [if_neg e]
      by_cases e2:i<k/\mk M i=false
      · rw [if_pos e2,if_pos ⟨by omega,e2.2⟩]
      · rw [if_neg e2,if_neg (fun h=>e2 ⟨by omega,h.2⟩)])
def LTo (L:List (Nd × Int)) (M:List Bool) (k:Nat):List (Nd × Int):=L.filter fun p=>decide (k<=(p.2 - 2).toNat) || mk M (p.2 - 2).toNat
theorem LTo_zero (L:List (Nd × Int)) (M:List Bool):LTo L M 0=L:=by
  unfold LTo;rw [List.filter_eq_self];intro p _;simp
theorem LTo_same {ns:List Nd} {L:List (Nd × Int)} {M:List Bool} {k:Nat} (hB:Book ns L) (hk:k<ns.length) (h:mk M k=true\/¬ (nd ns k).v<24):LTo L M (k + 1)=LTo L M k:=by
  unfold LTo
  apply List.filter_congr
  intro p hp
  obtain ⟨i,hi,hv,rfl⟩:=hB.mem p hp
  have e:(2 + (i:Int) - 2).toNat=i:=by omega
  simp only [e]
  by_cases e2:i=k
  · subst e2
    rcases h with h | h
    · simp [h]
    · exact absurd hv h
  · congr 1
    exact decide_eq_decide.2 (by omega)
theorem LTo_strike {ns:List Nd} {L:List (Nd × Int)} {M:List Bool} {k:Nat} (hB:Book ns L) (hk:k<ns.length) (h:mk M k=false) (hv:(nd ns k).v<24):strikeN (LTo L M k) (nd ns k)=LTo L M (k + 1):=by
  unfold strikeN LTo
  rw [List.filter_filter]
  apply List.filter_congr
  intro p hp
  have hin:=hB.all k hk hv
  obtain ⟨i,hi,hvi,rfl⟩:=hB.mem p hp
  have e:(2 + (i:Int) - 2).toNat=i:=by omega
  simp only [e]
  by_cases e2:i=k
  · subst e2
    simp [h]
  · have hne:nd ns i ≠ nd ns k:=by
      intro he
      obtain ⟨x,hx,hxe⟩:=List.getElem_of_mem hp
      obtain ⟨y,hy,hye⟩:=List.getElem_of_mem hin
      have:=(List.getElem_inj (h₀:=by simpa using hx) (h₁:=by simpa using hy) hB.nodup).1 (by simp [hxe,hye,he])
      subst this
      rw [hxe] at hye
      have:=congrArg Prod.snd hye
      simp at this;omega
    rw [decide_eq_true hne,Bool.true_and]
    congr 1
    exact decide_eq_decide.2 (by omega)
theorem LTo_mem {ns:List Nd} {L:List (Nd × Int)} {M:List Bool} {k:Nat} (hB:Book ns L) (hk:k<ns.length) (hv:(nd ns k).v<24):(nd ns k,2 + (k:Int)) ∈ LTo L M k:=by
  unfold LTo
  rw [List.mem_filter]
  exact ⟨hB.all k hk hv,by simp;omega⟩
section
variable {B b bm:Nat} {v:Value} {ns:List Nd} {L:List (Nd × Int)} {room next:Int} {w:World}
theorem sweep_any (hr:Ranked ns) (hbk:Book ns L) (hl:ns.length<=100000) (hA:ArenaAt B w b bm v ns L room next) (bf:Nat) {cp:Nat} (fs:List Int) (hF:IntsAt w bf fs) (hfl:fs.length<=1000) (hB:B<=w.heap.size) (hLl:L.length<=100000) :
    Calls Tryz.prog 226 #[.pointer (some ⟨b,0,none⟩),.slice (some ⟨bf,0,none⟩) fs.length cp] w fun e w'=>e=.returned (.int .i64 ((L.length:Int) - ((LTo L (marksOf ns fs) ns.length).length:Int)))/\ArenaAt B w' b bm v (swept ns (marksOf ns fs)) (LTo L (marksOf ns fs) ns.length) room 2/\Kept (Own b bm v) w w':=by
  have HC:=Lib.hid (reached_any (cp:=cp) hr hl hA bf fs hF hfl hB)
  have hML:=marksOf_length ns fs
  generalize marksOf ns fs=M at *
  have HML:=Lib.hid hML
  have hg:¬ Own b bm v w.heap.size:=by
    obtain ⟨D,hD,-⟩:=hA.hmap
    have hbm:=hD.lt
    have hlt:=hA.lt
    rintro (h | h | h)
    · omega
    · omega
    · have:=(hA.row.lt _ h).2;omega
  have HLEN:=Lib.hid (len_any hA)
  have HA:=Lib.hid hA
  have HG:=Lib.hid hg
  have HBK:=Lib.hid hbk
  have HR:=Lib.hid hr
  clear hA hF hr hML hg hbk
  go_enter Tryz.func226,Tryz.ntmps226
  go_wp2_with fail
  refine HLEN.out.mono ?_
  rintro e w0 ⟨rfl,rfl⟩
  clear HLEN
  go_wp2_with fail
  refine HC.out.mono ?_
  rintro e w1 ⟨rfl,hm1,hb1⟩
  clear HC
  have hA1:=HA.out.kept (Kept.of_below hb1 (fun _=>False)) (fun _ _ h=>h)
  have hK1:=Kept.of_below hb1 (Own b bm v)
  go_wp2_with fail
  go_loopw [6,7,14] (fun _ _ i wr=>∃ k:Nat,k<=ns.length/\i=.int .i64 (k:Int)/\ArenaAt B wr b bm v (sweptTo ns M k) (LTo L M k) room next/\wr.ownsRow B 4 1 (.slice (some ⟨w.heap.size,0,none⟩) ns.length ns.length) ns.length (mcells M)/\Kept (Own b bm v) w wr)
    (fun _ _ i _=>ns.length - (intOf i).toNat)
  case atStart=>exact ⟨0,Nat.zero_le _,rfl,by rw [sweptTo_zero,LTo_zero];exact hA1,hm1,hK1⟩
  case round =>
    obtain ⟨k,hk,rfl,hAr,hmr,hKr⟩:=hrel
    clear hA1 hK1 hm1 hb1
    by_cases hlt:k<ns.length
    · have cm:=hmr.cellAt k (by omega)
      rw [mcells_at M k (by rw [HML.out];exact hlt)] at cm
      have ib:(k:Int)<(ns.length:Int):=by omega
      by_cases hm:mk M k=true
      · rw [hm] at cm
        have E1:=Lib.hid (sweptTo_same hlt (.inl hm))
        have E2:=Lib.hid (LTo_same HBK.out hlt (.inl hm))
        have HAr:=Lib.hid hAr
        have HKr:=Lib.hid hKr
        have HM:=Lib.hid hmr
        clear hm hAr hKr hmr
        go_wp2
        go_roundw
        case rel=>exact ⟨k + 1,by omega,by go_num,by rw [E1.out,E2.out];exact HAr.out,HM.out,HKr.out⟩
        case measure=>simp [intOf];omega
      · have hm':mk M k=false:=by simpa using hm
        rw [hm'] at cm
        have hnk:nd (sweptTo ns M k) k=nd ns k:=by rw [sweptTo_at ns M k k hlt,if_neg (by omega)]
        have HAr:=Lib.hid hAr
        have HKr:=Lib.hid hKr
        have HM:=Lib.hid hmr
        clear hAr hKr hmr
        by_cases hv:(nd ns k).v<24
        · have HD:=Lib.hid (drop_yes HAr.out (by rw [sweptTo_length];exact hl) k (by rw [sweptTo_length];exact hlt) (by rw [hnk];omega) (by rw [hnk];exact LTo_mem HBK.out hlt hv))
          rw [hnk,sweptTo_set hlt hm',LTo_strike HBK.out hlt hm' hv] at HD
          clear hm hm' hnk hv
          go_wp2_with fail
          refine HD.out.mono ?_
          rintro e w2 ⟨rfl,hA2,hK2⟩
          have hm2:=ownsRow_kept HM.out hK2 (fun j hj h2=>by have hj2:w.heap.size=j:=Option.some.inj hj;exact HG.out (hj2 ▸ h2))
          have hKK:=HKr.out.trans hK2
          clear HD hK2 HAr
          go_wp2
          go_roundw
          case rel=>exact ⟨k + 1,by omega,by go_num,hA2,hm2,hKK⟩
          case measure=>simp [intOf];omega
        · have E1:=Lib.hid (sweptTo_same (M:=M) hlt (.inr (HBK.out.free k hlt hv)))
          have E2:=Lib.hid (LTo_same (M:=M) HBK.out hlt (.inr hv))
          have HD:=Lib.hid (drop_no HAr.out (by rw [sweptTo_length];exact hl) (2 + (k:Int)) ⟨by omega,by omega⟩ (by rw [topOf_at (by rw [sweptTo_length];exact hlt),hnk,HBK.out.free k hlt hv]))
          clear hm hm' hnk hv
          go_wp2_with fail
          refine HD.out.mono ?_
          rintro e w2 ⟨rfl,hb2⟩
          have hm2:=ownsRow_new HM.out hb2
          have hKK:=HKr.out.trans (Kept.of_below hb2 _)
          have hA2:=HAr.out.kept (Kept.of_below hb2 (fun _=>False)) (fun _ _ h=>h)
          clear HD hb2 HAr
          go_wp2
          go_roundw
          case rel=>exact ⟨k + 1,by omega,by go_num,by rw [E1.out,E2.out];exact hA2,hm2,hKK⟩
          case measure=>simp [intOf];omega
    · obtain rfl:k=ns.length:=by omega
      rw [sweptTo_end] at hAr
      have hA2:=hAr.setNext 2
      have HLEN:=Lib.hid (len_any hA2)
      have cnx:=hAr.cnext
      have fnx:=hAr.froz 3
      have HA2:=Lib.hid hA2
      have hKK:=hKr.trans (Kept.setCell (S:=Own b bm v) wr ⟨b,3,none⟩ (.int .i64 2) (.inl rfl))
      have hle:(LTo L M ns.length).length<=L.length:=List.length_filter_le _ _
      have HK2:=Lib.hid hKK
      obtain ⟨q,hq⟩:∃ q,q=(LTo L M ns.length).length:=⟨_,rfl⟩
      rw [<- hq] at HLEN hle
      have HQ:=Lib.hid hq
      clear hq
      clear hAr hA2 hKr hKK hmr
      go_wp2_with fail
      refine HLEN.out.mono ?_
      rintro e w3 ⟨rfl,rfl⟩
      go_wp2
      go_ret
      exact ⟨by rw [<- HQ.out];rfl,HA2.out,HK2.out⟩
end
end Go.Proofs.YtiihalknffbjpaaGreatDoor.Bd
namespace Go.Proofs.YtiihalknffbjpaaGreatDoor.Bd
open Go.RowKit Go.Maps
theorem new_any (room:Int) (h0:0<=room) (h1:room<=4000) (w:World) (B:Nat) (hB:B<=w.heap.size) :
    Calls Tryz.prog 155 #[.int .i64 room] w fun e w'=>e=.returned (.tuple #[.pointer (some ⟨w.heap.size + 1,0,none⟩),.nilIface])/\ArenaAt B w' (w.heap.size + 1) w.heap.size (.slice none 0 0) [] [] room 2/\Below w.heap.size w w':=by
  have hmm:=@run_makeMap Tryz.prog
  have hE:ArenaAt B ((w.alloc (.map #[] 0)).alloc (.cells #[.int .i64 room,.slice none 0 0,.map (some w.heap.size),.int .i64 2] 285)) (w.heap.size + 1) w.heap.size (.slice none 0 0) [] [] room 2:=by
    have e1:(w.alloc (.map #[] 0)).heap.size=w.heap.size + 1:=by simp
    have hm:((w.alloc (.map #[] 0)).alloc (.cells #[.int .i64 room,.slice none 0 0,.map (some w.heap.size),.int .i64 2] 285)).ownsMap Tryz.prog 176 (plainElem (H:=Unit) Tryz.prog 3) w.heap.size 0 (.map []):=(World.ownsMap_made w _ _ _).alloc _
    refine ⟨by simp,?_,?_,?_,?_,?_,World.ownsRow_nil _ _ _ _,⟨_,hm,Rep.empty⟩,by simp [Value.ownBlock],by omega,by simp [Value.ownBlock],by omega,hB⟩
    · rw [<- e1];simp
    · rw [<- e1];simp
    · rw [<- e1];simp
    · rw [<- e1];simp
    · intro i;rw [<- e1];simp
  have hb:Below w.heap.size w ((w.alloc (.map #[] 0)).alloc (.cells #[.int .i64 room,.slice none 0 0,.map (some w.heap.size),.int .i64 2] 285)):=((Below.refl _ _).alloc (Nat.le_refl _) _).alloc (by simp) _
  have HE:=Lib.hid hE
  clear hE
  go_enter Tryz.func155,Tryz.ntmps155
  go_wp2
  go_ret2
  exact ⟨rfl,HE.out,hb⟩
end Go.Proofs.YtiihalknffbjpaaGreatDoor.Bd
namespace Go.Proofs.YtiihalknffbjpaaGreatDoor.Bd
open Go.RowKit Go.Maps
theorem nd_snoc (ns:List Nd) (n:Nd) (i:Nat):nd (ns++[n]) i=if i<ns.length then nd ns i else if i=ns.length then n else ⟨0,0,0⟩:=by
  unfold nd
  simp only [List.getD_eq_getElem?_getD]
  by_cases h:i<ns.length
  · rw [if_pos h,List.getElem?_append_left h]
  · rw [if_neg h,List.getElem?_append_right (by omega)]
    by_cases e:i=ns.length
    · subst e;simp
    · rw [if_neg e,List.getElem?_eq_none (by simp;omega)];rfl
theorem hasB_cases {ns:List Nd} {h:Int} (hh:hasB ns h=true):h=0\/h=1\/topOf ns h<24:=by
  unfold hasB at hh;simpa [or_assoc] using hh
end Go.Proofs.YtiihalknffbjpaaGreatDoor.Bd
namespace Go.Proofs.YtiihalknffbjpaaGreatDoor.Bd
open Go.RowKit Go.Maps
def putN (ns:List Nd) (k:Nat) (n:Nd):List Nd:=(if k=ns.length then ns++[⟨24,0,0⟩] else ns).set k n
section
variable {ns:List Nd} {k:Nat} {n:Nd}
theorem putN_lt (hk:k<=ns.length) (i:Nat):i<(putN ns k n).length ↔ i<ns.length\/i=k:=by
  unfold putN
  rw [List.length_set];split
  · rw [List.length_append,List.length_singleton];omega
  · omega
theorem putN_length (_hk:k<=ns.length):(putN ns k n).length<=ns.length + 1/\ns.length<=(putN ns k n).length:=by
  unfold putN
  rw [List.length_set];split
  · rw [List.length_append,List.length_singleton];omega
  · omega
theorem putN_at (hk:k<=ns.length) (i:Nat) (hi:i<ns.length\/i=k):nd (putN ns k n) i=if i=k then n else nd ns i:=by
  unfold putN
  rw [nd_set _ _ _ _ (by split <;> (try simp) <;> omega)]
  by_cases e:i=k
  · rw [if_pos e,if_pos e]
  · rw [if_neg e,if_neg e]
    split
    · rw [nd_snoc,if_pos (by omega)]
    · rfl
theorem putN_node (hk:k<=ns.length) (hfree:k<ns.length->¬ (nd ns k).v<24) {h:Int} (ht:topOf ns h<24):nd (putN ns k n) (h - 2).toNat=nd ns (h - 2).toNat/\topOf (putN ns k n) h=topOf ns h:=by
  obtain ⟨b1,b2,b3⟩:=topOf_node (by omega:topOf ns h ≠ 24)
  have hne:(h - 2).toNat ≠ k:=fun e=>by
    rw [b3,e] at ht;exact hfree (e ▸ b2) ht
  have h1:nd (putN ns k n) (h - 2).toNat=nd ns (h - 2).toNat:=by rw [putN_at hk _ (.inl b2),if_neg hne]
  refine ⟨h1,?_⟩
  have hl:=(putN_lt (n:=n) hk (h - 2).toNat).2 (.inl b2)
  unfold topOf
  rw [if_pos (by omega),if_pos (by omega),h1]
theorem putN_top (hk:k<=ns.length) (hfree:k<ns.length->¬ (nd ns k).v<24) {h:Int} (hh:hasB ns h=true):topOf (putN ns k n) h=topOf ns h:=by
  rcases hasB_cases hh with rfl | rfl | ht
  · simp [topOf]
  · simp [topOf]
  · exact (putN_node hk hfree ht).2
theorem putN_has (hk:k<=ns.length) (hfree:k<ns.length->¬ (nd ns k).v<24) {h:Int} (hh:hasB ns h=true):hasB (putN ns k n) h=true:=by
  unfold hasB;rw [putN_top hk hfree hh];exact hh
theorem putN_self (hk:k<=ns.length):topOf (putN ns k n) (2 + (k:Int))=n.v:=by
  rw [topOf_at ((putN_lt hk k).2 (.inr rfl)),putN_at hk k (.inr rfl),if_pos rfl]
theorem putN_ranked (hr:Ranked ns) (hk:k<=ns.length) (hfree:k<ns.length->¬ (nd ns k).v<24) (hn:n.Ok) (hf:Fit ns n):Ranked (putN ns k n):=by
  have key:∀ j,j<(putN ns k n).length->nd (putN ns k n) j=n/\j=k\/j<ns.length/\nd (putN ns k n) j=nd ns j:=fun j hj=>by
    have hj':=(putN_lt hk j).1 hj
    by_cases e:j=k
    · exact .inl ⟨by rw [putN_at hk j hj',if_pos e],e⟩
    · exact .inr ⟨by omega,by rw [putN_at hk j hj',if_neg e]⟩
  refine ⟨?_,?_,?_,?_⟩ <;> intro j hj <;> rcases key j hj with ⟨e,-⟩ | ⟨hl,e⟩ <;> rw [e]
  · have:=hf.v0;have:=hf.v1;omega
  · exact hr.v0 j hl
  · intro _;rw [putN_top hk hfree hf.l];exact ⟨hf.tl,putN_has hk hfree hf.l⟩
  · intro hv;have:=hr.l j hl hv;rw [putN_top hk hfree this.2];exact ⟨this.1,putN_has hk hfree this.2⟩
  · intro _;rw [putN_top hk hfree hf.h];exact ⟨hf.th,putN_has hk hfree hf.h⟩
  · intro hv;have:=hr.h j hl hv;rw [putN_top hk hfree this.2];exact ⟨this.1,putN_has hk hfree this.2⟩
  · exact hn
  · exact hr.ok j hl
theorem putN_book {L:List (Nd × Int)} (hB:Book ns L) (hk:k<=ns.length) (hfree:k<ns.length->¬ (nd ns k).v<24) (hv:n.v<24) (hnin:n ∉ L.map Prod.fst):Book (putN ns k n) (L++[(n,2 + (k:Int))]):=by
  refine ⟨fun p hp=>?_,fun i hi hvi=>?_,?_,fun i hi hvi=>?_⟩
  · rcases List.mem_append.1 hp with hp | hp
    · obtain ⟨i,hi,hvi,rfl⟩:=hB.mem p hp
      have hne:i ≠ k:=fun e=>by subst e;exact hfree hi hvi
      refine ⟨i,(putN_lt hk i).2 (.inl hi),?_,?_⟩ <;> rw [putN_at hk i (.inl hi),if_neg hne]
      exact hvi
    · rw [List.mem_singleton] at hp;subst hp
      refine ⟨k,(putN_lt hk k).2 (.inr rfl),?_,?_⟩ <;> rw [putN_at hk k (.inr rfl),if_pos rfl]
      exact hv
  · have hi':=(putN_lt hk i).1 hi
    rw [putN_at hk i hi'] at hvi ⊢
    by_cases e:i=k
    · rw [if_pos e];subst e;simp
    · rw [if_neg e] at hvi ⊢
      exact List.mem_append.2 (.inl (hB.all i (by omega) hvi))
  · rw [List.map_append,List.nodup_append]
    refine ⟨hB.nodup,by simp,fun x hx y hy=>?_⟩
    simp at hy;subst hy
    exact fun e=>hnin (e ▸ hx)
  · have hi':=(putN_lt hk i).1 hi
    rw [putN_at hk i hi'] at hvi ⊢
    by_cases e:i=k
    · rw [if_pos e] at hvi;exact absurd hv hvi
    · rw [if_neg e] at hvi ⊢
      exact hB.free i (by omega) hvi
end
end Go.Proofs.YtiihalknffbjpaaGreatDoor.Bd
namespace Go.Proofs.YtiihalknffbjpaaGreatDoor.Bd
open Go.RowKit Go.Maps
def pl (h:Int):Nat:=(h - 2).toNat
def semF:Nat->List Nd->Int->(Nat->Bool)->Bool
  | 0,_,h,_=>decide (h=1)
  | d + 1,ns,h,f =>
    if topOf ns h=24 then decide (h=1)
    else if f (topOf ns h).toNat then semF d ns (nd ns (pl h)).h f else semF d ns (nd ns (pl h)).l f
def sem (ns:List Nd) (h:Int) (f:Nat->Bool):Bool:=semF 24 ns h f
structure Good (vars:Nat) (ns:List Nd):Prop where
  ranked:Ranked ns
  once:∀ i j,i<ns.length->j<ns.length->(nd ns i).v<24->nd ns i=nd ns j->i=j
  red:∀ i,i<ns.length->(nd ns i).v<24->(nd ns i).l ≠ (nd ns i).h
  vars:∀ i,i<ns.length->(nd ns i).v<24->(nd ns i).v<(vars:Int)
  free:∀ i,i<ns.length->¬ (nd ns i).v<24->nd ns i=⟨24,0,0⟩
section
variable {ns:List Nd}
theorem node_at {h:Int} (ht:topOf ns h ≠ 24):2<=h/\pl h<ns.length/\topOf ns h=(nd ns (pl h)).v/\h=2 + (pl h:Int):=by
  obtain ⟨h1,h2,h3⟩:=topOf_node ht
  exact ⟨h1,h2,h3,by unfold pl;omega⟩
theorem top_lt (hr:Ranked ns) {h:Int} (ht:topOf ns h ≠ 24):topOf ns h<24:=by
  have:=(topOf_le hr h).2;omega
theorem kids (hr:Ranked ns) {h:Int} (ht:topOf ns h ≠ 24):topOf ns h<topOf ns (nd ns (pl h)).l/\hasB ns (nd ns (pl h)).l=true/\topOf ns h<topOf ns (nd ns (pl h)).h/\hasB ns (nd ns (pl h)).h=true:=by
  obtain ⟨h1,h2,h3,h4⟩:=node_at ht
  have hv:=top_lt hr ht
  rw [h3] at hv ⊢
  exact ⟨(hr.l _ h2 hv).1,(hr.l _ h2 hv).2,(hr.h _ h2 hv).1,(hr.h _ h2 hv).2⟩
theorem end_of {h:Int} (hh:hasB ns h=true) (ht:topOf ns h=24):h=0\/h=1:=by
  rcases hasB_cases hh with h1 | h1 | h1
  · exact .inl h1
  · exact .inr h1
  · omega
theorem semF_any (hr:Ranked ns) (f:Nat->Bool):∀ (d e:Nat) (h:Int),24<=topOf ns h + d->24<=topOf ns h + e->semF d ns h f=semF e ns h f
  | 0,0,h,_,_=>rfl
  | 0,e + 1,h,hd,_=>by
    have:=(topOf_le hr h).2
    unfold semF;rw [if_pos (by omega)]
  | d + 1,0,h,_,he=>by
    have:=(topOf_le hr h).2
    unfold semF;rw [if_pos (by omega)]
  | d + 1,e + 1,h,hd,he=>by
    unfold semF
    by_cases ht:topOf ns h=24
    · rw [if_pos ht,if_pos ht]
    · rw [if_neg ht,if_neg ht]
      obtain ⟨k1,-,k2,-⟩:=kids hr ht
      rw [semF_any hr f d e _ (by omega) (by omega),semF_any hr f d e (nd ns (pl h)).l (by omega) (by omega)]
theorem sem_end {h:Int} (ht:topOf ns h=24) (f:Nat->Bool):sem ns h f=decide (h=1):=by
  unfold sem semF;rw [if_pos ht]
theorem sem_false (f:Nat->Bool):sem ns 0 f=false:=by rw [sem_end (by simp [topOf])];rfl
theorem sem_true (f:Nat->Bool):sem ns 1 f=true:=by rw [sem_end (by simp [topOf])];rfl
theorem sem_node (hr:Ranked ns) {h:Int} (ht:topOf ns h ≠ 24) (f:Nat->Bool):sem ns h f=if f (topOf ns h).toNat then sem ns (nd ns (pl h)).h f else sem ns (nd ns (pl h)).l f:=by
  obtain ⟨k1,-,k2,-⟩:=kids hr ht
  have h0:=(topOf_le hr h).1
  show semF 24 ns h f=_
  unfold semF
  rw [if_neg ht,semF_any hr f 23 24 _ (by omega) (by omega),semF_any hr f 23 24 (nd ns (pl h)).l (by omega) (by omega)]
  rfl
def loS (ns:List Nd) (h v:Int):Int:=if topOf ns h=v then (nd ns (pl h)).l else h
def hiS (ns:List Nd) (h v:Int):Int:=if topOf ns h=v then (nd ns (pl h)).h else h
theorem loS_has (hr:Ranked ns) {h v:Int} (hv:v<24) (hh:hasB ns h=true):hasB ns (loS ns h v)=true/\(v<=topOf ns h->v<topOf ns (loS ns h v))/\topOf ns h<=topOf ns (loS ns h v):=by
  unfold loS
  by_cases e:topOf ns h=v
  · rw [if_pos e]
    have:=kids hr (h:=h) (by omega)
    exact ⟨this.2.1,fun _=>by omega,by omega⟩
  · rw [if_neg e];exact ⟨hh,fun h=>by omega,Int.le_refl _⟩
theorem hiS_has (hr:Ranked ns) {h v:Int} (hv:v<24) (hh:hasB ns h=true):hasB ns (hiS ns h v)=true/\(v<=topOf ns h->v<topOf ns (hiS ns h v))/\topOf ns h<=topOf ns (hiS ns h v):=by
  unfold hiS
  by_cases e:topOf ns h=v
  · rw [if_pos e]
    have:=kids hr (h:=h) (by omega)
    exact ⟨this.2.2.2,fun _=>by omega,by omega⟩
  · rw [if_neg e];exact ⟨hh,fun h=>by omega,Int.le_refl _⟩
theorem sem_sides (hr:Ranked ns) {h v:Int} (hv:v<24) (f:Nat->Bool):sem ns h f=if f v.toNat then sem ns (hiS ns h v) f else sem ns (loS ns h v) f:=by
  unfold loS hiS
  by_cases e:topOf ns h=v
  · rw [if_pos e,if_pos e,sem_node hr (by omega),e]
  · rw [if_neg e,if_neg e];split <;> rfl
theorem semF_agree (hr:Ranked ns) {f g:Nat->Bool}:∀ (d:Nat) (h:Int),(∀ i:Nat,topOf ns h<=(i:Int)->f i=g i)->semF d ns h f=semF d ns h g
  | 0,_,_=>rfl
  | d + 1,h,hfg=>by
    unfold semF
    by_cases ht:topOf ns h=24
    · rw [if_pos ht,if_pos ht]
    · rw [if_neg ht,if_neg ht]
      obtain ⟨k1,-,k2,-⟩:=kids hr ht
      have h0:=(topOf_le hr h).1
      rw [hfg (topOf ns h).toNat (by omega),semF_agree hr d _ (fun i hi=>hfg i (by omega)),semF_agree hr d (nd ns (pl h)).l (fun i hi=>hfg i (by omega))]
theorem sem_agree (hr:Ranked ns) {f g:Nat->Bool} {h:Int} (hfg:∀ i:Nat,topOf ns h<=(i:Int)->f i=g i):sem ns h f=sem ns h g:=semF_agree hr 24 h hfg
def turn (f:Nat->Bool) (v:Nat) (b:Bool):Nat->Bool:=fun i=>if i=v then b else f i
theorem turn_ne (f:Nat->Bool) {v i:Nat} (b:Bool) (h:i ≠ v):turn f v b i=f i:=if_neg h
theorem turn_eq (f:Nat->Bool) (v:Nat) (b:Bool):turn f v b v=b:=if_pos rfl
theorem sides_same (hr:Ranked ns) {a b v:Int} (hv0:0<=v) (hv:v<24) (ha:hasB ns a=true) (hb:hasB ns b=true) (hta:v<=topOf ns a) (htb:v<=topOf ns b) (h:∀ f,sem ns a f=sem ns b f) :
    (∀ f,sem ns (loS ns a v) f=sem ns (loS ns b v) f)/\(∀ f,sem ns (hiS ns a v) f=sem ns (hiS ns b v) f):=by
  have la:=(loS_has hr hv ha).2.1 hta
  have lb:=(loS_has hr hv hb).2.1 htb
  have ga:=(hiS_has hr hv ha).2.1 hta
  have gb:=(hiS_has hr hv hb).2.1 htb
  refine ⟨fun f=>?_,fun f=>?_⟩
  · have:=h (turn f v.toNat false)
    rw [sem_sides hr hv,sem_sides (h:=b) hr hv] at this
    rw [turn_eq,if_neg (by simp),if_neg (by simp),sem_agree hr (g:=f) (fun i hi=>turn_ne _ _ (by omega)),sem_agree (h:=loS ns b v) hr (g:=f) (fun i hi=>turn_ne _ _ (by omega))] at this
    exact this
  · have:=h (turn f v.toNat true)
    rw [sem_sides hr hv,sem_sides (h:=b) hr hv] at this
    rw [turn_eq,if_pos rfl,if_pos rfl,sem_agree hr (g:=f) (fun i hi=>turn_ne _ _ (by omega)),sem_agree (h:=hiS ns b v) hr (g:=f) (fun i hi=>turn_ne _ _ (by omega))] at this
    exact this
theorem nd_eq {a b:Nd} (h0:a.v=b.v) (h1:a.l=b.l) (h2:a.h=b.h):a=b:=by cases a;cases b;cases h0;cases h1;cases h2;rfl
theorem canon {vars:Nat} (hg:Good vars ns):∀ (d:Nat) (a b:Int),24<=topOf ns a + d->24<=topOf ns b + d->hasB ns a=true->hasB ns b=true->(∀ f,sem ns a f=sem ns b f)->a=b
  | 0,a,b,da,db,ha,hb,h=>by
    have ta:=(topOf_le hg.ranked a).2
    have tb:=(topOf_le hg.ranked b).2
    have:=h (fun _=>false)
    rw [sem_end (by omega),sem_end (by omega)] at this
    rcases end_of ha (by omega) with rfl | rfl <;> rcases end_of hb (by omega) with rfl | rfl <;> simp at this ⊢
  | d + 1,a,b,da,db,ha,hb,h=>by
    have ta:=topOf_le hg.ranked a
    have tb:=topOf_le hg.ranked b
    by_cases e:topOf ns a=24/\topOf ns b=24
    · exact canon hg 0 a b (by omega) (by omega) ha hb h
    · have hr:=hg.ranked
      obtain ⟨v,hv,hva,hvb,hve⟩:∃ v,v<24/\v<=topOf ns a/\v<=topOf ns b/\(v=topOf ns a\/v=topOf ns b):=by
        rcases Int.lt_or_le (topOf ns a) (topOf ns b) with h1 | h1
        · exact ⟨topOf ns a,by omega,by omega,by omega,.inl rfl⟩
        · exact ⟨topOf ns b,by omega,by omega,by omega,.inr rfl⟩
      have hv0:0<=v:=by omega
      obtain ⟨sl,sh⟩:=sides_same hr hv0 hv ha hb hva hvb h
      have la:=loS_has hr hv ha
      have lb:=loS_has hr hv hb
      have ga:=hiS_has hr hv ha
      have gb:=hiS_has hr hv hb
      have e1:=canon hg d _ _ (by have:=la.2.1 hva;omega) (by have:=lb.2.1 hvb;omega) la.1 lb.1 sl
      have e2:=canon hg d _ _ (by have:=ga.2.1 hva;omega) (by have:=gb.2.1 hvb;omega) ga.1 gb.1 sh
      by_cases ca:topOf ns a=v
      · obtain ⟨na1,na2,na3,na4⟩:=node_at (ns:=ns) (h:=a) (by omega)
        by_cases cb:topOf ns b=v
        · obtain ⟨nb1,nb2,nb3,nb4⟩:=node_at (ns:=ns) (h:=b) (by omega)
          unfold loS at e1;unfold hiS at e2
          rw [if_pos ca,if_pos cb] at e1 e2
          have:=hg.once (pl a) (pl b) na2 nb2 (by omega) (by
            have e0:(nd ns (pl a)).v=(nd ns (pl b)).v:=by omega
            exact nd_eq e0 e1 e2)
          rw [na4,nb4,this]
        · unfold loS at e1;unfold hiS at e2
          rw [if_pos ca,if_neg cb] at e1 e2
          exact absurd (e1.trans e2.symm) (hg.red _ na2 (by omega))
      · have cb:topOf ns b=v:=by omega
        obtain ⟨nb1,nb2,nb3,nb4⟩:=node_at (ns:=ns) (h:=b) (by omega)
        unfold loS at e1;unfold hiS at e2
        rw [if_neg ca,if_pos cb] at e1 e2
        exact absurd (e1.symm.trans e2) (hg.red _ nb2 (by omega))
theorem same_handle {vars:Nat} (hg:Good vars ns) {a b:Int} (ha:hasB ns a=true) (hb:hasB ns b=true) (h:∀ f,sem ns a f=sem ns b f):a=b :=
  canon hg 24 a b (by have:=(topOf_le hg.ranked a).1;omega) (by have:=(topOf_le hg.ranked b).1;omega) ha hb h
structure Ext (ns ns':List Nd):Prop where
  has:∀ h,hasB ns h=true->hasB ns' h=true
  top:∀ h,hasB ns h=true->topOf ns' h=topOf ns h
  node:∀ h,hasB ns h=true->topOf ns h ≠ 24->nd ns' (pl h)=nd ns (pl h)
theorem Ext.refl (ns:List Nd):Ext ns ns:=⟨fun _ h=>h,fun _ _=>rfl,fun _ _ _=>rfl⟩
theorem Ext.trans {a b c:List Nd} (h:Ext a b) (k:Ext b c):Ext a c :=
  ⟨fun x hx=>k.has x (h.has x hx),fun x hx=>(k.top x (h.has x hx)).trans (h.top x hx),fun x hx ht=>(k.node x (h.has x hx) (by rw [h.top x hx];exact ht)).trans (h.node x hx ht)⟩
theorem semF_ext {ns':List Nd} (hr:Ranked ns) (he:Ext ns ns') (f:Nat->Bool):∀ (d:Nat) (h:Int),hasB ns h=true->semF d ns' h f=semF d ns h f
  | 0,_,_=>rfl
  | d + 1,h,hh=>by
    unfold semF
    rw [he.top h hh]
    by_cases ht:topOf ns h=24
    · rw [if_pos ht,if_pos ht]
    · obtain ⟨-,k1,-,k2⟩:=kids hr ht
      rw [if_neg ht,if_neg ht,he.node h hh ht,semF_ext hr he f d _ k1,semF_ext hr he f d _ k2]
theorem sem_ext {ns':List Nd} (hr:Ranked ns) (he:Ext ns ns') {h:Int} (hh:hasB ns h=true) (f:Nat->Bool):sem ns' h f=sem ns h f:=semF_ext hr he f 24 h hh
theorem ext_put {k:Nat} {n:Nd} (hk:k<=ns.length) (hfree:k<ns.length->¬ (nd ns k).v<24) (hr:Ranked ns):Ext ns (putN ns k n) :=
  ⟨fun _ hh=>putN_has hk hfree hh,fun _ hh=>putN_top hk hfree hh,fun _ _ ht=>(putN_node hk hfree (top_lt hr ht)).1⟩
end
end Go.Proofs.YtiihalknffbjpaaGreatDoor.Bd
namespace Go.Proofs.YtiihalknffbjpaaGreatDoor.Bd
open Go.RowKit Go.Maps
def bitsF (n:Nat):Nat->Bool:=fun i=>n.testBit i
end Go.Proofs.YtiihalknffbjpaaGreatDoor.Bd
namespace Go.Proofs.YtiihalknffbjpaaGreatDoor.Bd
open Go.RowKit Go.Maps
def lfree (ns:List Nd):Nat:=ns.findIdx fun n=>!decide (n.v<24)
def idx (ns:List Nd) (n:Nd):Nat:=ns.findIdx fun m=>decide (m=n)
def cnt (ns:List Nd):Nat:=(ns.filter fun n=>decide (n.v<24)).length
section
variable {ns:List Nd}
theorem lfree_le (ns:List Nd):lfree ns<=ns.length:=List.findIdx_le_length
theorem lfree_taken {j:Nat} (h:j<lfree ns):(nd ns j).v<24:=by
  have hl:j<ns.length:=Nat.lt_of_lt_of_le h (lfree_le ns)
  have:=List.not_of_lt_findIdx h
  rw [nd_at ns j hl];simpa using this
theorem lfree_free (h:lfree ns<ns.length):¬ (nd ns (lfree ns)).v<24:=by
  have:=List.findIdx_getElem (w:=h)
  rw [nd_at ns _ h];unfold lfree;simpa using this
theorem lfree_is {k:Nat} (hk:k<=ns.length) (ht:∀ j,j<k->(nd ns j).v<24) (hf:k<ns.length->¬ (nd ns k).v<24):k=lfree ns:=by
  rcases Nat.lt_trichotomy k (lfree ns) with h | h | h
  · exact absurd (lfree_taken h) (hf (Nat.lt_of_lt_of_le h (lfree_le ns)))
  · exact h
  · exact absurd (ht _ h) (lfree_free (by omega))
theorem idx_at {n:Nd} (h:idx ns n<ns.length):nd ns (idx ns n)=n:=by
  have:=List.findIdx_getElem (w:=h)
  rw [nd_at ns _ h];unfold idx;simpa using this
theorem idx_none {n:Nd} (h:¬ idx ns n<ns.length) {j:Nat} (hj:j<ns.length):nd ns j ≠ n:=by
  have:j<idx ns n:=by omega
  have:=List.not_of_lt_findIdx this
  rw [nd_at ns j hj];simpa using this
def makeF (ns:List Nd) (n:Nd):List Nd × Int:=if idx ns n<ns.length then (ns,2 + (idx ns n:Int)) else (putN ns (lfree ns) n,2 + (lfree ns:Int))
def nodeF (ns:List Nd) (v l h:Int):List Nd × Int:=if l=h then (ns,l) else makeF ns ⟨v,l,h⟩
theorem cnt_put_le (ns:List Nd) (n:Nd):cnt (putN ns (lfree ns) n)<=cnt ns + 1:=by
  unfold cnt putN
  have key:∀ (l:List Nd) (k:Nat),((l.set k n).filter fun n=>decide (n.v<24)).length<=(l.filter fun n=>decide (n.v<24)).length + 1:=by
    intro l
    induction l with
    | nil=>intro k;simp
    | cons a l ih =>
      intro k
      cases k with
      | zero =>
        simp only [List.set_cons_zero,List.filter_cons]
        split <;> split <;> simp <;> omega
      | succ k =>
        simp only [List.set_cons_succ,List.filter_cons]
        have:=ih k
        split
        · simp only [List.length_cons];omega
        · exact this
  refine Nat.le_trans (key _ _) ?_
  split
  · rw [List.filter_append];simp
  · exact Nat.le_refl _
theorem good_put {vars:Nat} (hg:Good vars ns) {n:Nd} (hn:n.Ok) (hf:Fit ns n) (hne:n.l ≠ n.h) (hv:n.v<(vars:Int)) (hnin:∀ j,j<ns.length->nd ns j ≠ n):Good vars (putN ns (lfree ns) n):=by
  have hk:=lfree_le ns
  have hfr:lfree ns<ns.length->¬ (nd ns (lfree ns)).v<24:=lfree_free
  have key:∀ j,j<(putN ns (lfree ns) n).length->nd (putN ns (lfree ns) n) j=n/\j=lfree ns\/j<ns.length/\j ≠ lfree ns/\nd (putN ns (lfree ns) n) j=nd ns j:=fun j hj=>by
    have hj':=(putN_lt hk j).1 hj
    by_cases e:j=lfree ns
    · exact .inl ⟨by rw [putN_at hk j hj',if_pos e],e⟩
    · exact .inr ⟨by omega,e,by rw [putN_at hk j hj',if_neg e]⟩
  refine ⟨putN_ranked hg.ranked hk hfr hn hf,fun i j hi hj hvi e=>?_,fun i hi hvi=>?_,fun i hi hvi=>?_,fun i hi hvi=>?_⟩
  · rcases key i hi with ⟨e1,x1⟩ | ⟨l1,n1,e1⟩ <;> rcases key j hj with ⟨e2,x2⟩ | ⟨l2,n2,e2⟩
    · omega
    · rw [e1,e2] at e;exact absurd e.symm (hnin j l2)
    · rw [e1,e2] at e;exact absurd e (hnin i l1)
    · rw [e1] at hvi;rw [e1,e2] at e;exact hg.once i j l1 l2 hvi e
  · rcases key i hi with ⟨e1,-⟩ | ⟨l1,-,e1⟩ <;> rw [e1] at hvi ⊢
    · exact hne
    · exact hg.red i l1 hvi
  · rcases key i hi with ⟨e1,-⟩ | ⟨l1,-,e1⟩ <;> rw [e1] at hvi ⊢
    · exact hv
    · exact hg.vars i l1 hvi
  · rcases key i hi with ⟨e1,-⟩ | ⟨l1,-,e1⟩ <;> rw [e1] at hvi ⊢
    · exact absurd hf.v1 hvi
    · exact hg.free i l1 hvi
theorem cnt_full:∀ (ns:List Nd),¬ lfree ns<ns.length->cnt ns=ns.length:=fun ns h=>by
  unfold cnt
  rw [List.filter_eq_self.2]
  intro a ha
  obtain ⟨i,hi,rfl⟩:=List.getElem_of_mem ha
  have:=lfree_taken (ns:=ns) (j:=i) (by have:=lfree_le ns;omega)
  rw [nd_at ns i hi] at this
  simpa using this
theorem put_tight (ns:List Nd) (n:Nd):(putN ns (lfree ns) n).length<=max ns.length (cnt ns + 1):=by
  by_cases h:lfree ns<ns.length
  · have:(putN ns (lfree ns) n).length=ns.length:=by unfold putN;rw [if_neg (by omega)];simp
    omega
  · have h1:=cnt_full ns h
    have h2:=(putN_length (n:=n) (lfree_le ns)).1
    omega
structure Made (vars:Nat) (ns:List Nd) (v l h:Int) (r:List Nd × Int):Prop where
  good:Good vars r.1
  ext:Ext ns r.1
  has:hasB r.1 r.2=true
  sem:∀ f,sem r.1 r.2 f=if f v.toNat then sem ns h f else sem ns l f
  top:v<=topOf r.1 r.2
  cnt:cnt r.1<=cnt ns + 1
  len:r.1.length<=ns.length + 1
  tight:r.1.length<=max ns.length (Go.Proofs.YtiihalknffbjpaaGreatDoor.Bd.cnt ns + 1)
  i64:I64 r.2
theorem has_i64 {h:Int} (hh:hasB ns h=true) (hl:ns.length<=1000000):I64 h:=by
  rcases hasB_cases hh with rfl | rfl | ht
  · exact ⟨by omega,by omega⟩
  · exact ⟨by omega,by omega⟩
  · obtain ⟨h1,h2,-,h4⟩:=node_at (ns:=ns) (h:=h) (by omega)
    exact ⟨by omega,by omega⟩
theorem nodeF_ok {vars:Nat} (hg:Good vars ns) {v l h:Int} (hl:ns.length<=900000) (h0:0<=v) (h24:v<24) (hv:v<(vars:Int)) (hl1:hasB ns l=true) (hh1:hasB ns h=true) (tl:v<topOf ns l) (th:v<topOf ns h):Made vars ns v l h (nodeF ns v l h):=by
  unfold nodeF
  by_cases e:l=h
  · rw [if_pos e]
    subst e
    exact ⟨hg,Ext.refl _,hl1,fun f=>by split <;> rfl,by show v<=topOf ns l;omega,Nat.le_succ _,Nat.le_succ _,Nat.le_max_left _ _,has_i64 hl1 (by omega)⟩
  · rw [if_neg e]
    unfold makeF
    have hi1:=has_i64 hl1 (by omega)
    have hi2:=has_i64 hh1 (by omega)
    by_cases c:idx ns ⟨v,l,h⟩<ns.length
    · rw [if_pos c]
      have ha:=idx_at c
      have ht:topOf ns (2 + (idx ns ⟨v,l,h⟩:Int))=v:=by rw [topOf_at c,ha]
      have hp:pl (2 + (idx ns ⟨v,l,h⟩:Int))=idx ns ⟨v,l,h⟩:=by unfold pl;omega
      refine ⟨hg,Ext.refl _,?_,fun f=>?_,?_,Nat.le_succ _,Nat.le_succ _,Nat.le_max_left _ _,⟨by show _<=(2 + _:Int);omega,by show (2 + _:Int)<=_;omega⟩⟩
      · show hasB ns _=true;unfold hasB;rw [ht];simp [h24]
      · show Go.Proofs.YtiihalknffbjpaaGreatDoor.Bd.sem ns _ f=_
        rw [sem_node hg.ranked (by rw [ht];omega),ht,hp,ha]
      · show v<=topOf ns (2 + (idx ns ⟨v,l,h⟩:Int));omega
    · rw [if_neg c]
      have hnin:∀ j,j<ns.length->nd ns j ≠ ⟨v,l,h⟩:=fun j hj=>idx_none c hj
      have hf:Fit ns ⟨v,l,h⟩:=⟨h0,h24,hl1,hh1,tl,th⟩
      have hgp:=good_put hg ⟨⟨by show _<=v;omega,by show v<=_;omega⟩,hi1,hi2⟩ hf e hv hnin
      have hk:=lfree_le ns
      have hx:Ext ns (putN ns (lfree ns) ⟨v,l,h⟩):=ext_put hk lfree_free hg.ranked
      have ht:topOf (putN ns (lfree ns) ⟨v,l,h⟩) (2 + (lfree ns:Int))=v:=putN_self hk
      have hp:pl (2 + (lfree ns:Int))=lfree ns:=by unfold pl;omega
      refine ⟨hgp,hx,?_,fun f=>?_,?_,cnt_put_le _ _,(putN_length hk).1,put_tight _ _,⟨by show _<=(2 + _:Int);omega,by show (2 + _:Int)<=_;omega⟩⟩
      · show hasB _ _=true;unfold hasB;rw [ht];simp [h24]
      · show Go.Proofs.YtiihalknffbjpaaGreatDoor.Bd.sem _ _ f=_
        rw [sem_node hgp.ranked (by rw [ht];omega),ht,hp,putN_at hk _ (.inr rfl),if_pos rfl,sem_ext hg.ranked hx hl1,sem_ext hg.ranked hx hh1]
      · show v<=topOf (putN ns (lfree ns) ⟨v,l,h⟩) (2 + (lfree ns:Int));omega
end
end Go.Proofs.YtiihalknffbjpaaGreatDoor.Bd
namespace Go.Proofs.YtiihalknffbjpaaGreatDoor.Bd
open Go.RowKit Go.Maps
def iteK (k:Nd):Option Int:=if k.v=1\/k.l=k.h then some k.l else if k.v=0 then some k.h else if k.l=1/\k.h=0 then some k.v else none
def xorK (k:Nd):Option Int:=if k.v=k.l then some 0 else if k.v=0 then some k.l else if k.l=0 then some k.v else none
def knownF (op:Bool) (k:Nd):Option Int:=if op=true then iteK k else xorK k
def opS (op a b c:Bool):Bool:=if op=true then (if a=true then b else c) else (a != b)
def minT (ns:List Nd) (k:Nd):Int:=min (min (topOf ns k.v) (topOf ns k.l)) (topOf ns k.h)
def loK (ns:List Nd) (k:Nd) (v:Int):Nd:=⟨loS ns k.v v,loS ns k.l v,loS ns k.h v⟩
def hiK (ns:List Nd) (k:Nd) (v:Int):Nd:=⟨hiS ns k.v v,hiS ns k.l v,hiS ns k.h v⟩
def look {α:Type} [DecidableEq α] (m:List (α × Int)) (k:α):Option Int:=(m.find? fun p=>decide (p.1=k)).map Prod.snd
def memoPut {α:Type} [DecidableEq α] (m:List (α × Int)) (k:α) (h:Int):List (α × Int):=if k ∈ m.map Prod.fst then m.map (fun q=>if q.1=k then (q.1,h) else q) else m++[(k,h)]
def makesF:Nat->Bool->List Nd->List (Nd × Int)->Nd->List Nd × List (Nd × Int) × Int
  | 0,op,ns,m,k=>(ns,m,(knownF op k).getD 0)
  | d + 1,op,ns,m,k =>
    match knownF op k with
    | some h=>(ns,m,h)
    | none =>
      match look m k with
      | some h=>(ns,m,h)
      | none =>
        let r1:=makesF d op ns m (loK ns k (minT ns k))
        let r2:=makesF d op r1.1 r1.2.1 (hiK ns k (minT ns k))
        let r3:=nodeF r2.1 (minT ns k) r1.2.2 r2.2.2
        (r3.1,memoPut r2.2.1 k r3.2,r3.2)
section
variable {α:Type} [DecidableEq α] {m:List (α × Int)} {k:α}
theorem look_mem {h:Int} (e:look m k=some h):(k,h) ∈ m:=by
  unfold look at e
  obtain ⟨p,hp,rfl⟩:=Option.map_eq_some_iff.1 e
  have h1:=List.find?_some hp
  have h2:=List.mem_of_find?_eq_some hp
  simp at h1
  subst h1
  exact h2
theorem look_no (e:look m k=none):k ∉ m.map Prod.fst:=by
  unfold look at e
  rw [Option.map_eq_none_iff,List.find?_eq_none] at e
  intro h
  obtain ⟨p,hp,rfl⟩:=List.mem_map.1 h
  exact e p hp (by simp)
theorem memoPut_mem {h:Int} {p:α × Int} (hp:p ∈ memoPut m k h):p=(k,h)\/p ∈ m:=by
  unfold memoPut at hp
  split at hp
  · obtain ⟨q,hq,rfl⟩:=List.mem_map.1 hp
    by_cases e:q.1=k
    · rw [if_pos e];exact .inl (by rw [e])
    · rw [if_neg e];exact .inr hq
  · rcases List.mem_append.1 hp with hp | hp
    · exact .inr hp
    · rw [List.mem_singleton] at hp;exact .inl hp
theorem memoPut_len (h:Int):(memoPut m k h).length<=m.length + 1:=by
  unfold memoPut
  split
  · simp
  · simp
end
structure Has3 (ns:List Nd) (k:Nd):Prop where
  a:hasB ns k.v=true
  b:hasB ns k.l=true
  c:hasB ns k.h=true
structure MemoOk (op:Bool) (ns:List Nd) (m:List (Nd × Int)):Prop where
  keys:∀ p ∈ m,Has3 ns p.1
  has:∀ p ∈ m,hasB ns p.2=true
  top:∀ p ∈ m,minT ns p.1<=topOf ns p.2
  sem:∀ p ∈ m,∀ f,sem ns p.2 f=opS op (sem ns p.1.v f) (sem ns p.1.l f) (sem ns p.1.h f)
section
variable {ns:List Nd} {op:Bool} {m:List (Nd × Int)} {k:Nd} {vars:Nat}
theorem minT_le (ns:List Nd) (k:Nd):minT ns k<=topOf ns k.v/\minT ns k<=topOf ns k.l/\minT ns k<=topOf ns k.h:=by unfold minT;omega
theorem minT_ge {x:Int} (h1:x<=topOf ns k.v) (h2:x<=topOf ns k.l) (h3:x<=topOf ns k.h):x<=minT ns k:=by unfold minT;omega
theorem minT_bd (hr:Ranked ns) (k:Nd):0<=minT ns k/\minT ns k<=24:=by
  have h1:=topOf_le hr k.v
  have h2:=topOf_le hr k.l
  have h3:=topOf_le hr k.h
  unfold minT;omega
theorem Has3.ext {ns':List Nd} (h:Has3 ns k) (he:Ext ns ns'):Has3 ns' k:=⟨he.has _ h.a,he.has _ h.b,he.has _ h.c⟩
theorem minT_ext {ns':List Nd} (h:Has3 ns k) (he:Ext ns ns'):minT ns' k=minT ns k:=by unfold minT;rw [he.top _ h.a,he.top _ h.b,he.top _ h.c]
theorem MemoOk.ext {ns':List Nd} (hr:Ranked ns) (h:MemoOk op ns m) (he:Ext ns ns'):MemoOk op ns' m :=
  ⟨fun p hp=>(h.keys p hp).ext he,fun p hp=>he.has _ (h.has p hp),fun p hp=>by rw [minT_ext (h.keys p hp) he,he.top _ (h.has p hp)];exact h.top p hp,
   fun p hp f=>by rw [sem_ext hr he (h.has p hp),sem_ext hr he (h.keys p hp).a,sem_ext hr he (h.keys p hp).b,sem_ext hr he (h.keys p hp).c];exact h.sem p hp f⟩
theorem end_ge {h:Int} (hh:h=0\/h=1):topOf ns h=24:=by rcases hh with rfl | rfl <;> simp [topOf]
theorem known_ok (hr:Ranked ns) {h:Int} (h3:Has3 ns k) (e:knownF op k=some h):hasB ns h=true/\minT ns k<=topOf ns h/\∀ f,sem ns h f=opS op (sem ns k.v f) (sem ns k.l f) (sem ns k.h f):=by
  obtain ⟨m1,m2,m3⟩:=minT_le ns k
  have mb:=(minT_bd hr k).2
  unfold knownF at e
  cases op with
  | true =>
    simp only [if_true] at e
    unfold iteK at e
    split at e
    · rename_i c
      cases e
      refine ⟨h3.b,m2,fun f=>?_⟩
      rcases c with c | c
      · rw [c,sem_true];simp [opS]
      · rw [c];simp only [opS,if_true];split <;> rfl
    · split at e
      · rename_i c
        cases e
        refine ⟨h3.c,m3,fun f=>?_⟩
        rw [c,sem_false];simp [opS]
      · split at e
        · rename_i c
          cases e
          refine ⟨h3.a,m1,fun f=>?_⟩
          rw [c.1,c.2,sem_true,sem_false]
          simp only [opS,if_true];cases sem ns k.v f <;> rfl
        · cases e
  | false =>
    simp only [Bool.false_eq_true,if_false] at e
    unfold xorK at e
    split at e
    · rename_i c
      cases e
      refine ⟨by simp [hasB],by rw [end_ge (.inl rfl)];exact mb,fun f=>?_⟩
      rw [c,sem_false];simp [opS]
    · split at e
      · rename_i c
        cases e
        refine ⟨h3.b,m2,fun f=>?_⟩
        rw [c,sem_false];simp [opS]
      · split at e
        · rename_i c
          cases e
          refine ⟨h3.a,m1,fun f=>?_⟩
          rw [c,sem_false];simp [opS]
        · cases e
theorem known_none (hr:Ranked ns) (h3:Has3 ns k) (e:knownF op k=none):minT ns k<24:=by
  have tv:=topOf_le hr k.v
  have tl:=topOf_le hr k.l
  obtain ⟨m1,m2,m3⟩:=minT_le ns k
  unfold knownF at e
  cases op with
  | true =>
    simp only [if_true] at e
    unfold iteK at e
    split at e
    · cases e
    · split at e
      · cases e
      · rename_i c1 c2
        by_cases t:topOf ns k.v=24
        · rcases end_of h3.a t with h | h
          · exact absurd h c2
          · exact absurd (.inl h) c1
        · omega
  | false =>
    simp only [Bool.false_eq_true,if_false] at e
    unfold xorK at e
    split at e
    · cases e
    · split at e
      · cases e
      · split at e
        · cases e
        · rename_i c1 c2 c3
          by_cases t:topOf ns k.v=24
          · by_cases u:topOf ns k.l=24
            · rcases end_of h3.a t with h | h <;> rcases end_of h3.b u with g | g <;> first | exact absurd h c2 | exact absurd g c3 | exact absurd (h.trans g.symm) c1
            · omega
          · omega
def rk (vars:Nat) (ns:List Nd) (k:Nd):Nat:=((vars:Int) - minT ns k).toNat
structure MakesR (vars:Nat) (op:Bool) (ns:List Nd) (m:List (Nd × Int)) (k:Nd) (r:List Nd × List (Nd × Int) × Int):Prop where
  good:Good vars r.1
  ext:Ext ns r.1
  memo:MemoOk op r.1 r.2.1
  has:hasB r.1 r.2.2=true
  sem:∀ f,sem r.1 r.2.2 f=opS op (sem ns k.v f) (sem ns k.l f) (sem ns k.h f)
  top:minT ns k<=topOf r.1 r.2.2
  cnt:cnt r.1 + 1<=cnt ns + 2 ^ rk vars ns k
  len:r.1.length + 1<=ns.length + 2 ^ rk vars ns k
  tight:r.1.length + 1<=max (ns.length + 1) (Go.Proofs.YtiihalknffbjpaaGreatDoor.Bd.cnt ns + 2 ^ rk vars ns k)
  mlen:r.2.1.length + 1<=m.length + 2 ^ rk vars ns k
theorem lo_has3 (hr:Ranked ns) (h3:Has3 ns k) (hv:minT ns k<24):Has3 ns (loK ns k (minT ns k))/\minT ns k<minT ns (loK ns k (minT ns k)):=by
  obtain ⟨m1,m2,m3⟩:=minT_le ns k
  have a:=loS_has hr hv h3.a
  have b:=loS_has hr hv h3.b
  have c:=loS_has hr hv h3.c
  refine ⟨⟨a.1,b.1,c.1⟩,?_⟩
  have:=minT_ge (ns:=ns) (k:=loK ns k (minT ns k)) (x:=minT ns k + 1) (a.2.1 m1) (b.2.1 m2) (c.2.1 m3)
  omega
theorem hi_has3 (hr:Ranked ns) (h3:Has3 ns k) (hv:minT ns k<24):Has3 ns (hiK ns k (minT ns k))/\minT ns k<minT ns (hiK ns k (minT ns k)):=by
  obtain ⟨m1,m2,m3⟩:=minT_le ns k
  have a:=hiS_has hr hv h3.a
  have b:=hiS_has hr hv h3.b
  have c:=hiS_has hr hv h3.c
  refine ⟨⟨a.1,b.1,c.1⟩,?_⟩
  have:=minT_ge (ns:=ns) (k:=hiK ns k (minT ns k)) (x:=minT ns k + 1) (a.2.1 m1) (b.2.1 m2) (c.2.1 m3)
  omega
theorem top_vars (hg:Good vars ns) {h:Int} (ht:topOf ns h ≠ 24):topOf ns h<(vars:Int):=by
  obtain ⟨h1,h2,h3,-⟩:=node_at ht
  have:=top_lt hg.ranked ht
  rw [h3] at this ⊢;exact hg.vars _ h2 this
theorem minT_vars (hg:Good vars ns) (hv:minT ns k<24):minT ns k<(vars:Int):=by
  have:minT ns k=topOf ns k.v\/minT ns k=topOf ns k.l\/minT ns k=topOf ns k.h:=by unfold minT;omega
  rcases this with e | e | e <;> rw [e] at hv ⊢ <;> exact top_vars hg (by omega)
theorem opS_if (op c a b d x y z:Bool):opS op (if c=true then a else x) (if c=true then b else y) (if c=true then d else z)=if c=true then opS op a b d else opS op x y z:=by
  cases c <;> simp
theorem makes_hit (hg:Good vars ns) (hm:MemoOk op ns m) {h:Int} (hh:hasB ns h=true) (ht:minT ns k<=topOf ns h) (hs:∀ f,Go.Proofs.YtiihalknffbjpaaGreatDoor.Bd.sem ns h f=opS op (Go.Proofs.YtiihalknffbjpaaGreatDoor.Bd.sem ns k.v f) (Go.Proofs.YtiihalknffbjpaaGreatDoor.Bd.sem ns k.l f) (Go.Proofs.YtiihalknffbjpaaGreatDoor.Bd.sem ns k.h f)):MakesR vars op ns m k (ns,m,h):=by
  have:=Nat.one_le_two_pow (n:=rk vars ns k)
  exact ⟨hg,Ext.refl _,hm,hh,hs,ht,by show Go.Proofs.YtiihalknffbjpaaGreatDoor.Bd.cnt ns + 1<=_;omega,by show ns.length + 1<=_;omega,by show ns.length + 1<=_;omega,by show m.length + 1<=_;omega⟩
theorem makes_ok:∀ (d:Nat) (ns:List Nd) (m:List (Nd × Int)) (k:Nd),Good vars ns->MemoOk op ns m->Has3 ns k->24<=minT ns k + d->ns.length + 2 ^ rk vars ns k<=900000->MakesR vars op ns m k (makesF d op ns m k)
  | 0,ns,m,k,hg,hm,h3,hd,_=>by
    unfold makesF
    cases e:knownF op k with
    | none=>have:=known_none hg.ranked h3 e;omega
    | some h =>
      obtain ⟨a,b,c⟩:=known_ok hg.ranked h3 e
      exact makes_hit hg hm a b c
  | d + 1,ns,m,k,hg,hm,h3,hd,hl=>by
    unfold makesF
    cases e:knownF op k with
    | some h =>
      obtain ⟨a,b,c⟩:=known_ok hg.ranked h3 e
      exact makes_hit hg hm a b c
    | none =>
      cases e2:look m k with
      | some h =>
        have hp:=look_mem e2
        exact makes_hit hg hm (hm.has _ hp) (hm.top _ hp) (hm.sem _ hp)
      | none =>
        have hr:=hg.ranked
        have hv:=known_none hr h3 e
        have hvv:=minT_vars hg hv
        have hv0:=(minT_bd hr k).1
        obtain ⟨l3,lt⟩:=lo_has3 hr h3 hv
        obtain ⟨g3,gt⟩:=hi_has3 hr h3 hv
        have hpow:2 ^ rk vars ns k=2 ^ (rk vars ns k - 1) + 2 ^ (rk vars ns k - 1):=by
          have:1<=rk vars ns k:=by unfold rk;omega
          obtain ⟨q,hq⟩:∃ q,rk vars ns k=q + 1:=⟨rk vars ns k - 1,by omega⟩
          rw [hq,Nat.add_sub_cancel,Nat.pow_succ];omega
        have pge:=Nat.one_le_two_pow (n:=rk vars ns k - 1)
        have p1:2 ^ rk vars ns (loK ns k (minT ns k))<=2 ^ (rk vars ns k - 1):=Nat.pow_le_pow_right (by omega) (by unfold rk;omega)
        have i1:=makes_ok d ns m (loK ns k (minT ns k)) hg hm l3 (by omega) (by omega)
        show MakesR vars op ns m k (_,_,_)
        generalize makesF d op ns m (loK ns k (minT ns k))=r1 at *
        have g3':=g3.ext i1.ext
        have gm:=minT_ext g3 i1.ext
        have p2:2 ^ rk vars r1.1 (hiK ns k (minT ns k))<=2 ^ (rk vars ns k - 1):=Nat.pow_le_pow_right (by omega) (by unfold rk;rw [gm];omega)
        have l1:=i1.len
        have c1:=i1.cnt
        have m1:=i1.mlen
        have i2:=makes_ok d r1.1 r1.2.1 (hiK ns k (minT ns k)) i1.good i1.memo g3' (by rw [gm];omega) (by omega)
        generalize makesF d op r1.1 r1.2.1 (hiK ns k (minT ns k))=r2 at *
        have l2:=i2.len
        have c2:=i2.cnt
        have t1:=i1.tight
        have t2:=i2.tight
        have m2:=i2.mlen
        have h1':=i2.ext.has _ i1.has
        have t1':topOf r2.1 r1.2.2=topOf r1.1 r1.2.2:=i2.ext.top _ i1.has
        have i3:=nodeF_ok i2.good (v:=minT ns k) (l:=r1.2.2) (h:=r2.2.2) (by omega) hv0 hv hvv h1' i2.has (by rw [t1'];have:=i1.top;omega) (by have:=i2.top;rw [gm] at this;omega)
        generalize nodeF r2.1 (minT ns k) r1.2.2 r2.2.2=r3 at *
        have x13:=(i1.ext.trans i2.ext).trans i3.ext
        have c3:=i3.cnt
        have t3:=i3.tight
        have l3':=i3.len
        have hsem:∀ f,Go.Proofs.YtiihalknffbjpaaGreatDoor.Bd.sem r3.1 r3.2 f=opS op (Go.Proofs.YtiihalknffbjpaaGreatDoor.Bd.sem ns k.v f) (Go.Proofs.YtiihalknffbjpaaGreatDoor.Bd.sem ns k.l f) (Go.Proofs.YtiihalknffbjpaaGreatDoor.Bd.sem ns k.h f):=fun f=>by
          rw [i3.sem f,sem_ext i1.good.ranked i2.ext i1.has,i1.sem f,i2.sem f,sem_ext hr i1.ext g3.a,sem_ext hr i1.ext g3.b,sem_ext hr i1.ext g3.c,
            sem_sides (h:=k.v) hr hv f,sem_sides (h:=k.l) hr hv f,sem_sides (h:=k.h) hr hv f,opS_if]
          rfl
        have mp:=memoPut_len (m:=r2.2.1) (k:=k) r3.2
        have mo:=i2.memo.ext i2.good.ranked i3.ext
        have htop:minT ns k<=topOf r3.1 r3.2:=i3.top
        have h3x:=h3.ext x13
        have mk:=minT_ext h3 x13
        refine ⟨i3.good,x13,⟨fun p hp=>?_,fun p hp=>?_,fun p hp=>?_,fun p hp f=>?_⟩,i3.has,hsem,htop,by show Go.Proofs.YtiihalknffbjpaaGreatDoor.Bd.cnt r3.1 + 1<=_;omega,by show r3.1.length + 1<=_;omega,by show r3.1.length + 1<=_;omega,by show (memoPut r2.2.1 k r3.2).length + 1<=_;omega⟩
        · rcases memoPut_mem hp with rfl | hp
          · exact h3x
          · exact mo.keys p hp
        · rcases memoPut_mem hp with rfl | hp
          · exact i3.has
          · exact mo.has p hp
        · rcases memoPut_mem hp with rfl | hp
          · show minT r3.1 k<=_;rw [mk];exact htop
          · exact mo.top p hp
        · rcases memoPut_mem hp with rfl | hp
          · show Go.Proofs.YtiihalknffbjpaaGreatDoor.Bd.sem r3.1 r3.2 f=_
            rw [hsem f,sem_ext hr x13 h3.a,sem_ext hr x13 h3.b,sem_ext hr x13 h3.c]
          · exact mo.sem p hp f
end
end Go.Proofs.YtiihalknffbjpaaGreatDoor.Bd
