/- refute: its walk. -/
import Derived.Test.YtjmfeefogikdfaaGreatDoorClSearch
set_option maxHeartbeats 4000000
set_option maxRecDepth 100000
namespace Go.Proofs.YtjmfeefogikdfaaGreatDoor
section
open Go.RowKit Go.Deep
theorem zhg:(Tryz.prog.info? 148).map (fun i=>(i.zero.map (·.cells.size),i.size,i.bytes))=some (some 25,25,32):=by kernel_rfl
theorem zcn:(Tryz.prog.info? 69).map (·.size)=some 24:=by kernel_rfl
theorem zmV:∃(i:TypeInfo) (z:Value),Tryz.prog.info? 148=some i/\i.zero=some z/\i.size=25/\i.bytes=32/\z.cells.size=25:=by
 obtain⟨i,hi,h⟩:=Option.map_eq_some_iff.1 zhg;simp only[Prod.mk.injEq,Option.map_eq_some_iff] at h;obtain⟨⟨z,hz,hs⟩,h1,h2⟩:=h;exact⟨i,z,hi,hz,h1,h2,hs⟩
theorem set0(cV dV pV u:Value)(told:List Int):([cV]++tvl told++[dV,pV]).toArray.setIfInBounds 0 u=([u]++tvl told++[dV,pV]).toArray:=by
 rw[List.setIfInBounds_toArray];rfl
theorem zd8(cV dV pV u:Value)(told:List Int):([cV]++tvl told++[dV,pV]).toArray.setIfInBounds 25 u=([cV]++tvl told++[u,pV]).toArray:=by
 rw[List.setIfInBounds_toArray,List.set_append_right _ _ (by simp[qy])];simp[qy]
theorem ziG(cV dV pV u:Value)(told:List Int):([cV]++tvl told++[dV,pV]).toArray.setIfInBounds 26 u=([cV]++tvl told++[dV,u]).toArray:=by
 rw[List.setIfInBounds_toArray,List.set_append_right _ _ (by simp[qy])];simp[qy]
theorem zeZ{w w':World}{row:Option Nat}{b o:Nat}{cs:List Value}(h:w.rangeAt b o cs)(hg:w.grownBy w' row)(hlt:b<w.heap.size)(hne:some b≠row):w'.rangeAt b o cs:=fun j v hv=>by
 rw[hg.cell_far ⟨b,o+j,none⟩ hlt hne];exact h j v hv
theorem SAt.grow_d{B sb:Nat}{W w1:World}{l:List (List Int)}{s:St}{cV dV pV dV':Value}{ds:List (Int × List Int)}(h:SAt B W sb l s cV dV pV)(hown:w1.ownsRow B 148 25 dV' ds.length (zV ds))(hg:W.grownBy w1 dV.ownBlock)(hB:B<=W.heap.size) :
  w1.cell? ⟨sb,25,none⟩=some dV/\w1.frozen? ⟨sb,25,none⟩=false/\SAt B (w1.setCell ⟨sb,25,none⟩ dV') sb l ⟨s.told,ds,s.prf⟩ cV dV' pV/\Below B W (w1.setCell ⟨sb,25,none⟩ dV'):=by
 obtain⟨cs,h1,h2⟩:=h.crow;obtain⟨ps,h3,h4⟩:=h.prow;have hne:some sb≠dV.ownBlock:=fun e=>qH h.drow h.blk (by decide) e.symm;have hb:Blk w1 sb 72 _:=h.blk.kept hg hne;have hk:=Kp.grown h.drow hg (by decide);have h1':=h1.kept hg (Qf h1 h.drow (by decide));have h3':=h3.kept hg (Qf h3 h.drow (by decide));have hk2:Kp B w1 (w1.setCell ⟨sb,25,none⟩ dV'):=Kp.set h.Bsb hb (by decide);have hbw:Below B W w1:=zF.grown hg hB (fun k hk=>(h.drow.lt k hk).1);refine⟨by rw[hb.cell,List.getElem?_toArray,List.getElem?_append_right (by simp[qy])];simp[qy],hb.frozen _,⟨?_,h.Bsb,⟨cs,ownsRow_setCell_other h1' (qH h1' hb (by decide)) _,(h2.kp hk).kp hk2⟩,⟨ps,ownsRow_setCell_other h3' (qH h3' hb (by decide)) _,(h4.kp hk.zero).kp hk2.zero⟩,ownsRow_setCell_other hown (qH hown hb (by decide)) _,h.apart⟩,hbw.setCell h.Bsb _⟩;have:=hb.set (i:=25) (v:=dV');rw[zd8] at this;exact this
theorem zia(B sb:Nat)(l:List (List Int))(s:St)(cV dV pV:Value)(x:Int)(hx:zJ 24 x=true)(h1:-x∉s.told)(hd:s.decs.length<=24)(w:World)(h:SAt B w sb l s cV dV pV) :
  zC 27 #[.pointer (some ⟨sb,0,none⟩),.int .i64 x] w fun e w'=>e=.returned (.tuple #[])/\(∃dV',SAt B w' sb l ⟨s.told++[x],s.decs++[(x,s.told)],s.prf⟩ cV dV' pV)/\Below B w w':=by
 obtain⟨i0,z,hin,hz0,hz1,hz2,hz3⟩:=zmV;have c25:=h.c25;have S0:w.drew.cell? ⟨sb,25,none⟩=some dV/\w.drew.rangeAt sb 1 (tvl s.told):=by
  refine⟨by simpa using c25,?_⟩;rw[World.rangeAt_drew];intro j v hj;have hj24:j<24:=by have:=(List.getElem?_eq_some_iff.1 hj).1;rw[qy] at this;exact this
  have:=h.vals.cell j hj24;rw[add_plain] at this;rw[this,<-KO _ _ hj24];exact hj
 have hu:=Tryz.underlying69;have hi:(Tryz.prog.info? 69).map (·.size)=some (tvl s.told).length:=by rw[qy];exact zcn
 have hl:(tvl s.told).length=24:=qy _;have ho:∀v∈tvl s.told,v.oneCell'=true:=fun v hv=>by
  unfold tvl at hv;obtain⟨i,_,rfl⟩:=List.mem_map.1 hv;rfl
 have HD:=zH h;obtain⟨V,hV⟩:∃V,V=tvl s.told:=⟨_,rfl⟩;rw[<-hV] at S0 hi hl ho;have HV:=zH hV;clear h hV
 match V,hl with
 |[v0,v1,v2,v3,v4,v5,v6,v7,v8,v9,v10,v11,v12,v13,v14,v15,v16,v17,v18,v19,v20,v21,v22,v23],hl =>
  clear hl;have cb:=HD.out.blk;have hws:=cb.lt;have S1:(w.alloc (.cells #[.int .i64 x,v0,v1,v2,v3,v4,v5,v6,v7,v8,v9,v10,v11,v12,v13,v14,v15,v16,v17,v18,v19,v20,v21,v22,v23] 148)).drew.cell? ⟨sb,25,none⟩=some dV/\(w.alloc (.cells #[.int .i64 x,v0,v1,v2,v3,v4,v5,v6,v7,v8,v9,v10,v11,v12,v13,v14,v15,v16,v17,v18,v19,v20,v21,v22,v23] 148)).drew.rangeAt sb 1 [v0,v1,v2,v3,v4,v5,v6,v7,v8,v9,v10,v11,v12,v13,v14,v15,v16,v17,v18,v19,v20,v21,v22,v23]:=by
   refine⟨?_,?_⟩
   ·rw[World.cell?_drew,World.cell?_alloc_lt _ _ ⟨sb,25,none⟩ hws];exact c25
   ·rw[World.rangeAt_drew];exact World.rangeAt_alloc ((World.rangeAt_drew _ _ _ _).1 S0.2) _
  have hsz:=HD.out.drow.lt;have hW:SAt B (w.alloc (.cells #[.int .i64 x,v0,v1,v2,v3,v4,v5,v6,v7,v8,v9,v10,v11,v12,v13,v14,v15,v16,v17,v18,v19,v20,v21,v22,v23] 148)).drew sb l s cV dV pV:=HD.out.new ((below_new w _).drew);have HOW:=zH hW.drow;have hws2:=hW.blk.lt;have hnr:some sb≠dV.ownBlock:=fun e=>qH hW.drow hW.blk (by decide) e.symm;have hBw:B<=w.heap.size:=by have:=HD.out.Bsb;omega
  have hB2:B<=(w.alloc (.cells #[.int .i64 x,v0,v1,v2,v3,v4,v5,v6,v7,v8,v9,v10,v11,v12,v13,v14,v15,v16,v17,v18,v19,v20,v21,v22,v23] 148)).drew.heap.size:=by show B<=(w.alloc _).heap.size;rw[World.size_alloc];omega
  have one:∀u∈[Value.int .i64 x,v0,v1,v2,v3,v4,v5,v6,v7,v8,v9,v10,v11,v12,v13,v14,v15,v16,v17,v18,v19,v20,v21,v22,v23],u.oneCell'=true:=fun u hu=>by
   rcases List.mem_cons.1 hu with h|h
   ·rw[h];rfl
   ·exact ho u h
  have GR:Hid (∀ (g cap:Nat) (w1:World),w1.ownsRow B 148 25 (.slice (some ⟨g,0,none⟩) (s.decs.length + 1) cap) (s.decs.length + 1) (zV s.decs++[.int .i64 x,v0,v1,v2,v3,v4,v5,v6,v7,v8,v9,v10,v11,v12,v13,v14,v15,v16,v17,v18,v19,v20,v21,v22,v23])->(w.alloc (.cells #[.int .i64 x,v0,v1,v2,v3,v4,v5,v6,v7,v8,v9,v10,v11,v12,v13,v14,v15,v16,v17,v18,v19,v20,v21,v22,v23] 148)).drew.grownBy w1 dV.ownBlock ->
    w1.cell? ⟨sb,25,none⟩=some dV/\w1.frozen? ⟨sb,25,none⟩=false/\SAt B (w1.setCell ⟨sb,25,none⟩ (.slice (some ⟨g,0,none⟩) (s.decs.length + 1) cap)) sb l ⟨s.told,s.decs++[(x,s.told)],s.prf⟩ cV (.slice (some ⟨g,0,none⟩) (s.decs.length + 1) cap) pV/\Below B w (w1.setCell ⟨sb,25,none⟩ (.slice (some ⟨g,0,none⟩) (s.decs.length + 1) cap))):=fun g cap w1 hown hgrow=>by
   have e:zV s.decs++[.int .i64 x,v0,v1,v2,v3,v4,v5,v6,v7,v8,v9,v10,v11,v12,v13,v14,v15,v16,v17,v18,v19,v20,v21,v22,v23]=zV (s.decs++[(x,s.told)]):=by rw[Xw];unfold yT;rw[HV.out]
   rw[e] at hown;obtain⟨g1,g2,g3,g4⟩:=hW.grow_d (ds:=s.decs++[(x,s.told)]) (by simpa using hown) hgrow hB2;exact⟨g1,g2,g3,((below_new w (.cells #[.int .i64 x,v0,v1,v2,v3,v4,v5,v6,v7,v8,v9,v10,v11,v12,v13,v14,v15,v16,v17,v18,v19,v20,v21,v22,v23] 148)).drew.mono hBw).trans g4⟩
  obtain⟨r0,S0⟩:=S0;obtain⟨r1,S1⟩:=S1;clear cb ho hsz hW HD HV;go_enter Tryz.func27,Tryz.ntmps27;go_wp2_with fail;refine wp_region_noPanic ?_;refine wp_region_held_drew (S:=(fun X=>X.rangeAt sb 1 [v0,v1,v2,v3,v4,v5,v6,v7,v8,v9,v10,v11,v12,v13,v14,v15,v16,v17,v18,v19,v20,v21,v22,v23])) (by kernel_rfl) S0 (fun hHeld=>?_);refine wpAnyH_take (i:=0) (oi:=⟨_,_,_,_,_,_⟩) (v:=?_) rfl (by as_aux_lemma=>kernel_rfl) (by as_aux_lemma=>kernel_rfl) (by as_aux_lemma=>kernel_rfl) (fun _ _ _ h=>h) (Or.inl ⟨by rfl,?_⟩) (by assumption) ?_;rotate_left
  ·(intro w hSw;(try dsimp only at hSw);first|(go_simp;done)|(go_simp;with_reducible rfl))
  try simp only[Act.put,List.setIfInBounds_toArray,List.set_cons_zero,List.set_cons_succ]
  refine wpAnyH_take (i:=1) (oi:=⟨_,_,_,_,_,_⟩) (v:=?_) rfl (by as_aux_lemma=>kernel_rfl) (by as_aux_lemma=>kernel_rfl) (by as_aux_lemma=>kernel_rfl) (fun _ _ _ h=>h) (Or.inl ⟨by rfl,?_⟩) (by assumption) ?_;rotate_left
  ·(intro w hSw;(try dsimp only at hSw);first|(go_simp;done)|(go_simp;with_reducible rfl))
  try simp only[Act.put,List.setIfInBounds_toArray,List.set_cons_zero,List.set_cons_succ]
  refine wpAnyH_take (i:=2) (oi:=⟨_,_,_,_,_,_⟩) (v:=?_) rfl (by as_aux_lemma=>kernel_rfl) (by as_aux_lemma=>kernel_rfl) (by as_aux_lemma=>kernel_rfl) (fun _ _ _ h=>h) (Or.inl ⟨by rfl,?_⟩) (by assumption) ?_;rotate_left
  ·(intro w hSw;(try dsimp only at hSw);first|(go_simp;done)|(go_simp;with_reducible rfl))
  try simp only[Act.put,List.setIfInBounds_toArray,List.set_cons_zero,List.set_cons_succ]
  refine wpAnyH_take (i:=3) (oi:=⟨_,_,_,_,_,_⟩) (v:=?_) rfl (by as_aux_lemma=>kernel_rfl) (by as_aux_lemma=>kernel_rfl) (by as_aux_lemma=>kernel_rfl) (fun _ _ _ h=>h) (Or.inl ⟨by rfl,?_⟩) (by assumption) ?_;rotate_left
  ·(intro w hSw;(try dsimp only at hSw);first|(go_simp;done)|(go_simp;with_reducible rfl))
  try simp only[Act.put,List.setIfInBounds_toArray,List.set_cons_zero,List.set_cons_succ]
  refine wpAnyH_take (i:=5) (oi:=⟨_,_,_,_,_,_⟩) (v:=?_) rfl (by as_aux_lemma=>kernel_rfl) (by as_aux_lemma=>kernel_rfl) (by as_aux_lemma=>kernel_rfl) (fun _ _ _ h=>h) (Or.inl ⟨by rfl,?_⟩) (by assumption) ?_;rotate_left
  ·(intro w hSw;(try dsimp only at hSw);first|(go_simp;done)|(go_simp;with_reducible rfl))
  try simp only[Act.put,List.setIfInBounds_toArray,List.set_cons_zero,List.set_cons_succ]
  refine wpAnyH_take (i:=6) (oi:=⟨_,_,_,_,_,_⟩) (v:=?_) rfl (by as_aux_lemma=>kernel_rfl) (by as_aux_lemma=>kernel_rfl) (by as_aux_lemma=>kernel_rfl) (fun _ _ _ h=>h) (Or.inl ⟨by rfl,?_⟩) (by assumption) ?_;rotate_left
  ·(intro w hSw;(try dsimp only at hSw);first|(go_simp;done)|(go_simp;with_reducible rfl))
  try simp only[Act.put,List.setIfInBounds_toArray,List.set_cons_zero,List.set_cons_succ]
  refine wpAnyH_take (i:=7) (oi:=⟨_,_,_,_,_,_⟩) (v:=?_) rfl (by as_aux_lemma=>kernel_rfl) (by as_aux_lemma=>kernel_rfl) (by as_aux_lemma=>kernel_rfl) (fun _ _ _ h=>h) (Or.inl ⟨by rfl,?_⟩) (by assumption) ?_;rotate_left
  ·(intro w hSw;(try dsimp only at hSw);first|(go_simp;done)|(go_simp;with_reducible rfl))
  try simp only[Act.put,List.setIfInBounds_toArray,List.set_cons_zero,List.set_cons_succ]
  refine wpAnyH_take (i:=8) (oi:=⟨_,_,_,_,_,_⟩) (v:=?_) rfl (by as_aux_lemma=>kernel_rfl) (by as_aux_lemma=>kernel_rfl) (by as_aux_lemma=>kernel_rfl) (fun _ _ _ h=>h) (Or.inl ⟨by rfl,?_⟩) (by assumption) ?_;rotate_left
  ·(intro w hSw;(try dsimp only at hSw);first|(go_simp;done)|(go_simp;with_reducible rfl))
  try simp only[Act.put,List.setIfInBounds_toArray,List.set_cons_zero,List.set_cons_succ]
  refine wpAnyH_take (i:=9) (oi:=⟨_,_,_,_,_,_⟩) (v:=.agg #[v0,v1,v2,v3,v4,v5,v6,v7,v8,v9,v10,v11,v12,v13,v14,v15,v16,v17,v18,v19,v20,v21,v22,v23]) rfl (by as_aux_lemma=>kernel_rfl) (by as_aux_lemma=>kernel_rfl) (by as_aux_lemma=>kernel_rfl) (fun _ _ _ h=>h) (yieldsIf_load_mid (by rfl) 69 _ rfl sb 1 rfl [v0,v1,v2,v3,v4,v5,v6,v7,v8,v9,v10,v11,v12,v13,v14,v15,v16,v17,v18,v19,v20,v21,v22,v23] _ (fun _ h=>h) hu rfl hi) (by assumption) ?_
  try simp only[Act.put,List.setIfInBounds_toArray,List.set_cons_zero,List.set_cons_succ]
  refine wpAnyH_take (i:=10) (oi:=⟨_,_,_,_,_,_⟩) (v:=?_) rfl (by as_aux_lemma=>kernel_rfl) (by as_aux_lemma=>kernel_rfl) (by as_aux_lemma=>kernel_rfl) (fun _ _ _ h=>h) (Or.inl ⟨by rfl,?_⟩) (by assumption) ?_;rotate_left
  ·(intro w hSw;(try dsimp only at hSw);first|(go_simp;done)|(go_simp;with_reducible rfl))
  try simp only[Act.put,List.setIfInBounds_toArray,List.set_cons_zero,List.set_cons_succ]
  refine wpAnyH_ready (rs:=[4,11]) (by as_aux_lemma=>kernel_rfl) (by simp) ?_;refine AllReadyH.cons (o:=⟨_,_,_,_,_,_⟩) rfl (fun K hK=>?_) (AllReadyH.cons (o:=⟨_,_,_,_,_,_⟩) rfl (fun K hK=>?_) AllReadyH.nil)
  ·go_simp;refine hK.out _ _ ?_ (fun hNew=>?_)
   ·exact hHeld
   clear hK K;replace hHeld:=hNew;clear hNew
   try simp only[Act.put,List.setIfInBounds_toArray,List.set_cons_zero,List.set_cons_succ]
   refine wpAnyH_ready (rs:=[11]) (by as_aux_lemma=>kernel_rfl) (by simp) ?_;refine AllReadyH.cons (o:=⟨_,_,_,_,_,_⟩) rfl (fun K hK=>?_) AllReadyH.nil;go_simp;refine hK.out _ _ ?_ (fun hNew=>?_)
   ·exact S1
   clear hK K;replace hHeld:=hNew;clear hNew
   try simp only[Act.put,List.setIfInBounds_toArray,List.set_cons_zero,List.set_cons_succ]
   refine wpAnyH_ready (rs:=[12]) (by as_aux_lemma=>kernel_rfl) (by simp) ?_;refine AllReadyH.cons (o:=⟨_,_,_,_,_,_⟩) rfl (fun K hK=>?_) AllReadyH.nil;refine step_append_lies _ (by rfl) _ _ _ (by rfl) B 148 i0 z 25 32 Tryz.underlying70 hin hz0 hz1 hz2 hz3 (by decide) dV s.decs.length (zV s.decs) (by rfl) HOW.out ⟨w.heap.size,0,none⟩ 1 1 [.int .i64 x,v0,v1,v2,v3,v4,v5,v6,v7,v8,v9,v10,v11,v12,v13,v14,v15,v16,v17,v18,v19,v20,v21,v22,v23] (by rfl) (by rfl) (World.news_of_block (heap_alloc_new w _)) one (by decide) (by unfold maxLen;omega) (by omega) hB2 _ rfl ?_;intro g cap w1 hown hgrow hat hlt;obtain⟨C2,F2,HS,HBB⟩:=GR.out g cap w1 hown hgrow;have R1:=zeZ S1 hgrow hws2 hnr;have R2:=World.rangeAt_setCells_apart R1 sb 25 [.slice (some ⟨g,0,none⟩) (s.decs.length+1) cap] (Or.inr (Or.inl (by simp)));have HS2:=zH HS;have HB2:=zH HBB;clear hown hgrow hat hlt HS HBB GR HOW;refine hK.out _ _ ?_ (fun hNew=>?_)
   ·exact R1
   clear hK K;replace hHeld:=hNew;clear hNew
   try simp only[Act.put,List.setIfInBounds_toArray,List.set_cons_zero,List.set_cons_succ]
   refine wpAnyH_take (i:=13) (oi:=⟨_,_,_,_,_,_⟩) (v:=?_) rfl (by as_aux_lemma=>kernel_rfl) (by as_aux_lemma=>kernel_rfl) (by as_aux_lemma=>kernel_rfl) (fun _ _ _ h=>h) (Or.inl ⟨by rfl,?_⟩) (by assumption) ?_;rotate_left
   ·(intro w hSw;(try dsimp only at hSw);first|(go_simp;done)|(go_simp;with_reducible rfl))
   try simp only[Act.put,List.setIfInBounds_toArray,List.set_cons_zero,List.set_cons_succ]
   refine wpAnyH_take (i:=14) (oi:=⟨_,_,_,_,_,_⟩) (v:=?_) rfl (by as_aux_lemma=>kernel_rfl) (by as_aux_lemma=>kernel_rfl) (by as_aux_lemma=>kernel_rfl) (fun _ _ _ h=>h) (Or.inl ⟨by rfl,?_⟩) (by assumption) ?_;rotate_left
   ·(intro w hSw;(try dsimp only at hSw);first|(go_simp;done)|(go_simp;with_reducible rfl))
   try simp only[Act.put,List.setIfInBounds_toArray,List.set_cons_zero,List.set_cons_succ]
   refine wpAnyH_ready (rs:=[15]) (by as_aux_lemma=>kernel_rfl) (by simp) ?_;refine AllReadyH.cons (o:=⟨_,_,_,_,_,_⟩) rfl (fun K hK=>?_) AllReadyH.nil;go_simp;refine hK.out _ _ ?_ (fun hNew=>?_)
   ·exact R2
   clear hK K;replace hHeld:=hNew;clear hNew
   try simp only[Act.put,List.setIfInBounds_toArray,List.set_cons_zero,List.set_cons_succ]
   refine wpAnyH_done (by kernel_rfl) (NoPanic.normal ?_) _
   as_aux_lemma =>
    clear hHeld;clear r0 r1 C2 F2 R1 R2 S1;have HT:=zH (zad ⟨sb,1,none⟩ s.told x hx _ HS2.out.vals);have HS3:=zH (HS2.out.tell hx h1);have HB3:Hid (Below B w _):=HB2.out.setCell (p:=(⟨sb,1,none⟩:Addr).add (qZ x)) (by rw[xP];exact HS2.out.Bsb) (.int .i8 (xp x));generalize w1.setCell ⟨sb,25,none⟩ (.slice (some ⟨g,0,none⟩) (s.decs.length+1) cap)=W3 at *;go_wp2_with fail;refine HT.out.mono ?_;rintro e w4 ⟨rfl,hw4⟩;have HS4:Hid (SAt B w4 sb l ⟨s.told++[x],s.decs++[(x,s.told)],s.prf⟩ cV (.slice (some ⟨g,0,none⟩) (s.decs.length+1) cap) pV):=by rw[hw4];exact HS3.out
    have HB4:Hid (Below B w w4):=by rw[hw4];exact HB3.out
    clear hw4 HS3 HB3 HT;go_wp2;refine bodyPost_end (v:=.tuple #[]) (by simp[results,Tryz.results27,go_sem]) rfl ?_;exact⟨rfl,⟨_,HS4.out⟩,HB4.out⟩
  ·go_simp;refine hK.out _ _ ?_ (fun hNew=>?_)
   ·exact S1
   clear hK K;replace hHeld:=hNew;clear hNew
   try simp only[Act.put,List.setIfInBounds_toArray,List.set_cons_zero,List.set_cons_succ]
   refine wpAnyH_ready (rs:=[4]) (by as_aux_lemma=>kernel_rfl) (by simp) ?_;refine AllReadyH.cons (o:=⟨_,_,_,_,_,_⟩) rfl (fun K hK=>?_) AllReadyH.nil;go_simp;refine hK.out _ _ ?_ (fun hNew=>?_)
   ·exact hHeld
   clear hK K;replace hHeld:=hNew;clear hNew
   try simp only[Act.put,List.setIfInBounds_toArray,List.set_cons_zero,List.set_cons_succ]
   refine wpAnyH_ready (rs:=[12]) (by as_aux_lemma=>kernel_rfl) (by simp) ?_;refine AllReadyH.cons (o:=⟨_,_,_,_,_,_⟩) rfl (fun K hK=>?_) AllReadyH.nil;refine step_append_lies _ (by rfl) _ _ _ (by rfl) B 148 i0 z 25 32 Tryz.underlying70 hin hz0 hz1 hz2 hz3 (by decide) dV s.decs.length (zV s.decs) (by rfl) HOW.out ⟨w.heap.size,0,none⟩ 1 1 [.int .i64 x,v0,v1,v2,v3,v4,v5,v6,v7,v8,v9,v10,v11,v12,v13,v14,v15,v16,v17,v18,v19,v20,v21,v22,v23] (by rfl) (by rfl) (World.news_of_block (heap_alloc_new w _)) one (by decide) (by unfold maxLen;omega) (by omega) hB2 _ rfl ?_;intro g cap w1 hown hgrow hat hlt;obtain⟨C2,F2,HS,HBB⟩:=GR.out g cap w1 hown hgrow;have R1:=zeZ S1 hgrow hws2 hnr;have R2:=World.rangeAt_setCells_apart R1 sb 25 [.slice (some ⟨g,0,none⟩) (s.decs.length+1) cap] (Or.inr (Or.inl (by simp)));have HS2:=zH HS;have HB2:=zH HBB;clear hown hgrow hat hlt HS HBB GR HOW;refine hK.out _ _ ?_ (fun hNew=>?_)
   ·exact R1
   clear hK K;replace hHeld:=hNew;clear hNew
   try simp only[Act.put,List.setIfInBounds_toArray,List.set_cons_zero,List.set_cons_succ]
   refine wpAnyH_take (i:=13) (oi:=⟨_,_,_,_,_,_⟩) (v:=?_) rfl (by as_aux_lemma=>kernel_rfl) (by as_aux_lemma=>kernel_rfl) (by as_aux_lemma=>kernel_rfl) (fun _ _ _ h=>h) (Or.inl ⟨by rfl,?_⟩) (by assumption) ?_;rotate_left
   ·(intro w hSw;(try dsimp only at hSw);first|(go_simp;done)|(go_simp;with_reducible rfl))
   try simp only[Act.put,List.setIfInBounds_toArray,List.set_cons_zero,List.set_cons_succ]
   refine wpAnyH_take (i:=14) (oi:=⟨_,_,_,_,_,_⟩) (v:=?_) rfl (by as_aux_lemma=>kernel_rfl) (by as_aux_lemma=>kernel_rfl) (by as_aux_lemma=>kernel_rfl) (fun _ _ _ h=>h) (Or.inl ⟨by rfl,?_⟩) (by assumption) ?_;rotate_left
   ·(intro w hSw;(try dsimp only at hSw);first|(go_simp;done)|(go_simp;with_reducible rfl))
   try simp only[Act.put,List.setIfInBounds_toArray,List.set_cons_zero,List.set_cons_succ]
   refine wpAnyH_ready (rs:=[15]) (by as_aux_lemma=>kernel_rfl) (by simp) ?_;refine AllReadyH.cons (o:=⟨_,_,_,_,_,_⟩) rfl (fun K hK=>?_) AllReadyH.nil;go_simp;refine hK.out _ _ ?_ (fun hNew=>?_)
   ·exact R2
   clear hK K;replace hHeld:=hNew;clear hNew
   try simp only[Act.put,List.setIfInBounds_toArray,List.set_cons_zero,List.set_cons_succ]
   refine wpAnyH_done (by kernel_rfl) (NoPanic.normal ?_) _
   as_aux_lemma =>
    clear hHeld;clear r0 r1 C2 F2 R1 R2 S1;have HT:=zH (zad ⟨sb,1,none⟩ s.told x hx _ HS2.out.vals);have HS3:=zH (HS2.out.tell hx h1);have HB3:Hid (Below B w _):=HB2.out.setCell (p:=(⟨sb,1,none⟩:Addr).add (qZ x)) (by rw[xP];exact HS2.out.Bsb) (.int .i8 (xp x));generalize w1.setCell ⟨sb,25,none⟩ (.slice (some ⟨g,0,none⟩) (s.decs.length+1) cap)=W3 at *;go_wp2_with fail;refine HT.out.mono ?_;rintro e w4 ⟨rfl,hw4⟩;have HS4:Hid (SAt B w4 sb l ⟨s.told++[x],s.decs++[(x,s.told)],s.prf⟩ cV (.slice (some ⟨g,0,none⟩) (s.decs.length+1) cap) pV):=by rw[hw4];exact HS3.out
    have HB4:Hid (Below B w w4):=by rw[hw4];exact HB3.out
    clear hw4 HS3 HB3 HT;go_wp2;refine bodyPost_end (v:=.tuple #[]) (by simp[results,Tryz.results27,go_sem]) rfl ?_;exact⟨rfl,⟨_,HS4.out⟩,HB4.out⟩
end
section
open Go.RowKit Go.Deep
theorem zaN{W:World}{b:Nat}{t:TypeId}{cs:List Value}(h:Blk W b t cs.toArray)(vs:List Value)(o:Nat)(ho:o+vs.length<=cs.length):Blk (W.setCells b o vs) b t (cs.take o++vs++cs.drop (o+vs.length)).toArray:=by
 induction vs generalizing W o cs with
 |nil=>simpa[World.setCells] using h
 |cons v vs ih =>
  have h1:=h.set (i:=o) (v:=v);rw[List.setIfInBounds_toArray] at h1;simp only[List.length_cons] at ho;have h2:=ih h1 (o+1) (by rw[List.length_set];omega);show Blk ((W.setCell ⟨b,o,none⟩ v).setCells b (o+1) vs) b t _;have e:(cs.set o v).take (o+1)++vs++(cs.set o v).drop (o+1+vs.length)=cs.take o++v :: vs++cs.drop (o+(vs.length+1)):=by
   rw[List.take_succ_eq_append_getElem (by rw[List.length_set];omega),List.take_set_of_le zN,List.getElem_set_self,List.drop_set_of_lt (by omega)];simp[Nat.add_assoc,Nat.add_comm 1]
  rw[e] at h2;exact h2
theorem KX{B:Nat}{b:Nat}{t:TypeId}(hB:B<=b)(ht:t≠3):∀(vs:List Value) (o:Nat) (W:World) (cs:Array Value),Blk W b t cs->Kp B W (W.setCells b o vs)
 |[],_,W,_,_=>Kp.refl B W
 |_ :: vs,o,_,_,h=>(Kp.set hB h ht).trans (KX hB ht vs (o+1) _ _ h.set)
theorem Y1{B:Nat}{e:TypeId}{size n b:Nat}{V:Value}{xs:List Value}(hne:V.ownBlock≠some b):∀(vs:List Value) (o:Nat) (W:World),W.ownsRow B e size V n xs->(W.setCells b o vs).ownsRow B e size V n xs
 |[],_,_,h=>h
 |v :: vs,o,_,h=>Y1 hne vs (o+1) _ (ownsRow_setCell_other h (a:=⟨b,o,none⟩) hne v)
theorem Kx{B b:Nat}(hB:B<=b){W0:World}:∀(vs:List Value) (o:Nat) (W:World),Below B W0 W->Below B W0 (W.setCells b o vs)
 |[],_,_,h=>h
 |v :: vs,o,_,h=>Kx hB vs (o+1) _ (h.setCell (p:=⟨b,o,none⟩) hB v)
theorem zgq{B sb:Nat}{w:World}{l:List (List Int)}{s:St}{cV dV pV:Value}(h:SAt B w sb l s cV dV pV)(t:List Int):SAt B (w.setCells sb 1 (tvl t)) sb l ⟨t,s.decs,s.prf⟩ cV dV pV/\Below B w (w.setCells sb 1 (tvl t)):=by
 obtain⟨cs,h1,h2⟩:=h.crow;obtain⟨ps,h3,h4⟩:=h.prow;have hk:Kp B w (w.setCells sb 1 (tvl t)):=KX h.Bsb (by decide) _ _ _ _ h.blk;refine⟨⟨?_,h.Bsb,⟨cs,Y1 (qH h1 h.blk (by decide)) _ _ _ h1,h2.kp hk⟩,⟨ps,Y1 (qH h3 h.blk (by decide)) _ _ _ h3,h4.kp hk.zero⟩,Y1 (qH h.drow h.blk (by decide)) _ _ _ h.drow,h.apart⟩,Kx h.Bsb _ _ _ zF⟩;have:=zaN h.blk (tvl t) 1 (by simp[qy]);have e:([cV]++tvl s.told++[dV,pV]).take 1++tvl t++([cV]++tvl s.told++[dV,pV]).drop (1+(tvl t).length)=[cV]++tvl t++[dV,pV]:=by
  rw[qy,List.append_assoc [cV],List.take_append_of_le_length (by simp),List.drop_append,List.drop_append_of_le_length (by simp[qy])];have:(tvl s.told).drop 24=[]:=List.drop_eq_nil_of_le (by rw[qy];exact Nat.le_refl _);simp[this]
 rw[e] at this;exact this
theorem zny(told:List Int):(Tryz.prog.info? 69).map (·.size)=some (tvl told).length:=by rw[qy];exact zcn
theorem zeW(told:List Int):∀v∈tvl told,v.oneCell'=true:=fun v hv=>by
 unfold tvl at hv;obtain⟨i,_,rfl⟩:=List.mem_map.1 hv;rfl
theorem zjg(B sb:Nat)(l:List (List Int))(s:St)(cV dV pV:Value)(ds:List (Int × List Int))(x:Int)(t:List Int)(hds:s.decs=ds++[(x,t)])(hd:s.decs.length<=24)(w:World)(h:SAt B w sb l s cV dV pV) :
  zC 24 #[.pointer (some ⟨sb,0,none⟩)] w fun e w'=>e=.returned (.tuple #[])/\(∃dV',SAt B w' sb l ⟨t,ds,s.prf⟩ cV dV' pV)/\Below B w w':=by
 have hrow:=h.drow;rw[hds,Xw] at hrow;have hlen:(ds++[(x,t)]).length=ds.length+1:=by simp
 rw[hlen] at hrow;obtain⟨g,cap,rfl,hBg,hgl⟩:=hrow.form (by omega);have hcap:ds.length+1<=cap/\cap<=9223372036854775807:=by
  rcases hrow.2 with ⟨e,_⟩|⟨g',cap',cur,e,-,-,q1,q2,-⟩
  ·cases e
  ·cases e;unfold maxLen at q2;exact⟨q1,q2⟩
 have hr:w.rangeAt g (ds.length*25+1) (tvl t):=by
  intro j v hj;have hj24:j<24:=by have:=(List.getElem?_eq_some_iff.1 hj).1;rw[qy] at this;exact this
  have:=hrow.cellAt (ds.length*25+1+j) (by omega);rw[this,List.getElem?_append_right (by rw[J1];omega),J1,show ds.length*25+1+j-ds.length*25=j+1 by omega];exact hj
 have hth:w.there sb 1 (tvl t).toArray.size:=by
  intro j hj;have hj24:j<24:=by simpa[qy] using hj
  have:=h.vals.cell j hj24;rw[add_plain] at this;exact⟨by rw[this];rfl,h.fz _⟩
 have c25:=h.c25;obtain⟨hm,hmb⟩:=zgq h t;have m25:=hm.c25;have mf:=hm.fz 25;have hset:=hm.blk.set (i:=25) (v:=.slice (some ⟨g,0,none⟩) ds.length cap);rw[zd8] at hset;have hrows:=hm.rows 25 (.slice (some ⟨g,0,none⟩) ds.length cap);have hpop:(((w.setCells sb 1 (tvl t)).setCell ⟨sb,25,none⟩ (.slice (some ⟨g,0,none⟩) ds.length cap))).ownsRow B 148 25 (.slice (some ⟨g,0,none⟩) ds.length cap) ds.length (zV ds):=by
  have:=hrows.2.2;simp only[hds,Xw,hlen] at this;exact ownsRow_pop (J1 ds) this
 have HS:Hid (SAt B ((w.setCells sb 1 (tvl t)).setCell ⟨sb,25,none⟩ (.slice (some ⟨g,0,none⟩) ds.length cap)) sb l ⟨t,ds,s.prf⟩ cV (.slice (some ⟨g,0,none⟩) ds.length cap) pV):=⟨hset,hm.Bsb,hrows.1,hrows.2.1,hpop,hm.apart⟩;have HB:Hid (Below B w ((w.setCells sb 1 (tvl t)).setCell ⟨sb,25,none⟩ (.slice (some ⟨g,0,none⟩) ds.length cap))):=hmb.setCell hm.Bsb _;have hu:=zH Tryz.underlying69;have hi:=zH (zny t);have ho:=zH (all_oneCell_toArray (zeW t));have HR:=zH hr;have HTH:=zH hth;rw[hds,hlen] at hd;clear h hm hmb hset hrows hpop hr hth hrow hlen hds;have e1:(ds.length:Int)+1-1=(ds.length:Int):=by omega
 generalize tvl t=V at *;generalize ds.length=n at *;go_enter Tryz.func24,Tryz.ntmps24;go_wp2_with (first
  |(refine wpList_load_mid (by rfl) 69 _ (by rfl) g (n*25+1) (by rfl) V _ HR.out hu.out (by rfl) hi.out ?_)
  |(refine wpList_store_mid (by rfl) 69 _ _ (by rfl) sb 1 V.toArray (by rfl) (by rfl) HTH.out (by simpa using hi.out) ho.out ?_)
  | fail)
 refine bodyPost_end (v:=.tuple #[]) (by simp[results,Tryz.results24,go_sem]) rfl ?_;exact⟨rfl,⟨_,HS.out⟩,HB.out⟩
end
section
open Go.RowKit Go.Deep
structure SG(B:Nat)(w:World)(sb:Nat)(told:List Int)(decs:List (Int × List Int))(cl pl:List (List Int))(cV dV pV:Value):Prop where
 blk:Blk w sb 72 ([cV]++tvl told++[dV,pV]).toArray
 Bsb:B<=sb
 crow:∃cs,w.ownsRow B 43 1 cV cl.length cs/\zx B w cs cl
 prow:∃ps,w.ownsRow B 43 1 pV pl.length ps/\zx 0 w ps pl
 drow:w.ownsRow B 148 25 dV decs.length (zV decs)
 apart:cV.ownBlock=none\/cV.ownBlock≠pV.ownBlock
section
variable {B sb:Nat} {W w1:World} {l:List (List Int)} {s:St} {told:List Int} {decs:List (Int × List Int)} {cl pl:List (List Int)} {cV dV pV:Value}
theorem SAt.sg(h:SAt B W sb l s cV dV pV):SG B W sb s.told s.decs (l++s.prf) s.prf cV dV pV:=⟨h.blk,h.Bsb,h.crow,h.prow,h.drow,h.apart⟩
theorem SG.st(h:SG B W sb s.told s.decs (l++s.prf) s.prf cV dV pV):SAt B W sb l s cV dV pV:=⟨h.blk,h.Bsb,h.crow,h.prow,h.drow,h.apart⟩
theorem SG.new{w':World}(h:SG B W sb told decs cl pl cV dV pV)(hb:zB W w'):SG B w' sb told decs cl pl cV dV pV:=by
 obtain⟨cs,h1,h2⟩:=h.crow;obtain⟨ps,h3,h4⟩:=h.prow;exact⟨h.blk.below hb h.blk.lt,h.Bsb,⟨cs,zZ h1 hb,h2.kp (Kp.new hb)⟩,⟨ps,zZ h3 hb,h4.kp (Kp.new hb)⟩,zZ h.drow hb,h.apart⟩
theorem SG.c0(h:SG B W sb told decs cl pl cV dV pV):W.cell? ⟨sb,0,none⟩=some cV:=by rw[h.blk.cell];rfl
theorem SG.c26(h:SG B W sb told decs cl pl cV dV pV):W.cell? ⟨sb,26,none⟩=some pV:=by
 rw[h.blk.cell,List.getElem?_toArray,List.getElem?_append_right (by simp[qy])];simp[qy]
theorem SG.grow_p{ps:List Value}{pV':Value}{a:Option Addr}{cap:Nat}{c:List Int}(h:SG B W sb told decs cl pl cV dV pV)(hps:W.ownsRow B 43 1 pV pl.length ps)(hpk:zx 0 W ps pl)(hown:w1.ownsRow B 43 1 pV' (pl.length+1) (ps++[.slice a c.length cap]))(hg:W.grownBy w1 pV.ownBlock)(hloc:pV'.ownBlock=pV.ownBlock\/pV'.ownBlock=some W.heap.size)(hB:B<=W.heap.size)
  (h1:c.length<=cap) (h2:cap<=9223372036854775807) (h3:qA 0 W a c) :
  w1.cell? ⟨sb,26,none⟩=some pV/\w1.frozen? ⟨sb,26,none⟩=false/\SG B (w1.setCell ⟨sb,26,none⟩ pV') sb told decs cl (pl++[c]) cV dV pV'/\Below B W (w1.setCell ⟨sb,26,none⟩ pV')/\qA 0 (w1.setCell ⟨sb,26,none⟩ pV') a c:=by
 obtain⟨cs,h4,h5⟩:=h.crow;have hne:some sb≠pV.ownBlock:=fun e=>qH hps h.blk (by decide) e.symm;have hb:Blk w1 sb 72 _:=h.blk.kept hg hne;have hk:=Kp.grown hps hg (by decide);have h4':=h4.kept hg h.apart;have hd':=h.drow.kept hg (Qf h.drow hps (by decide));have hk2:Kp B w1 (w1.setCell ⟨sb,26,none⟩ pV'):=Kp.set h.Bsb hb (by decide);have hbw:Below B W w1:=zF.grown hg hB (fun k hk=>(hps.lt k hk).1);refine⟨by rw[hb.cell,List.getElem?_toArray,List.getElem?_append_right (by simp[qy])];simp[qy],hb.frozen _,⟨?_,h.Bsb,⟨cs,ownsRow_setCell_other h4' (qH h4' hb (by decide)) _,(h5.kp hk).kp hk2⟩,⟨_,?_,((hpk.kp hk.zero).kp hk2.zero).snoc h1 h2 ((h3.kp hk.zero).kp hk2.zero)⟩,ownsRow_setCell_other hd' (qH hd' hb (by decide)) _,?_⟩,hbw.setCell h.Bsb _,(h3.kp hk.zero).kp hk2.zero⟩
 ·have:=hb.set (i:=26) (v:=pV');rw[ziG] at this;exact this
 ·have:=ownsRow_setCell_other hown (a:=⟨sb,26,none⟩) (qH hown hb (by decide)) pV';simpa using this
 ·cases hcv:cV.ownBlock with
  |none=>exact Or.inl rfl
  |some k =>
   refine Or.inr fun e=>?_;have hlt:=(h4.lt k hcv).2;rcases hloc with hl|hl
   ·rw[hl] at e;rcases h.apart with ha|ha
    ·rw[ha] at hcv;cases hcv
    ·exact ha (hcv.trans e)
   ·rw[hl] at e;simp at e;omega
theorem SG.grow_c{cs:List Value}{cV':Value}{a:Option Addr}{cap:Nat}{c:List Int}(h:SG B W sb told decs cl pl cV dV pV)(hcs:W.ownsRow B 43 1 cV cl.length cs)(hck:zx B W cs cl)(hown:w1.ownsRow B 43 1 cV' (cl.length+1) (cs++[.slice a c.length cap]))(hg:W.grownBy w1 cV.ownBlock)(hloc:cV'.ownBlock=cV.ownBlock\/cV'.ownBlock=some W.heap.size)(hB:B<=W.heap.size)
  (h1:c.length<=cap) (h2:cap<=9223372036854775807) (h3:qA B W a c) :
  w1.cell? ⟨sb,0,none⟩=some cV/\w1.frozen? ⟨sb,0,none⟩=false/\SG B (w1.setCell ⟨sb,0,none⟩ cV') sb told decs (cl++[c]) pl cV' dV pV/\Below B W (w1.setCell ⟨sb,0,none⟩ cV'):=by
 obtain⟨ps,h4,h5⟩:=h.prow;have hne:some sb≠cV.ownBlock:=fun e=>qH hcs h.blk (by decide) e.symm;have hb:Blk w1 sb 72 _:=h.blk.kept hg hne;have hk:=Kp.grown hcs hg (by decide);have hap:pV.ownBlock=none\/pV.ownBlock≠cV.ownBlock:=by
  cases hpv:pV.ownBlock with
  |none=>exact Or.inl rfl
  |some k =>
   refine Or.inr fun e=>?_;rcases h.apart with ha|ha
   ·rw[ha] at e;cases e
   ·exact ha (e.symm.trans hpv.symm)
 have h4':=h4.kept hg hap;have hd':=h.drow.kept hg (Qf h.drow hcs (by decide));have hk2:Kp B w1 (w1.setCell ⟨sb,0,none⟩ cV'):=Kp.set h.Bsb hb (by decide);have hbw:Below B W w1:=zF.grown hg hB (fun k hk=>(hcs.lt k hk).1);refine⟨by rw[hb.cell];rfl,hb.frozen _,⟨?_,h.Bsb,⟨_,?_,((hck.kp hk).kp hk2).snoc h1 h2 ((h3.kp hk).kp hk2)⟩,⟨ps,ownsRow_setCell_other h4' (qH h4' hb (by decide)) _,(h5.kp hk.zero).kp hk2.zero⟩,ownsRow_setCell_other hd' (qH hd' hb (by decide)) _,?_⟩,hbw.setCell h.Bsb _⟩
 ·have:=hb.set (i:=0) (v:=cV');rw[set0] at this;exact this
 ·have:=ownsRow_setCell_other hown (a:=⟨sb,0,none⟩) (qH hown hb (by decide)) cV';simpa using this
 ·rcases hloc with hl|hl
  ·rw[hl];exact h.apart
  ·rw[hl];refine Or.inr fun e=>?_;have:=(h4.lt W.heap.size e.symm).2;omega
end
def xS(ds:List (Int × List Int))(k:Nat):List Int:=(zA ds).take k++List.replicate (ds.length-k) 0
theorem ZD(ds:List (Int × List Int)):(zA ds).length=ds.length:=by simp[zA]
theorem zcV(ds:List (Int × List Int)){k:Nat}(h:k<=ds.length):(xS ds k).length=ds.length:=by
 unfold xS;rw[List.length_append,List.length_take,ZD,List.length_replicate];omega
theorem zkU(ds:List (Int × List Int)):xS ds 0=List.replicate ds.length 0:=by simp[xS]
theorem zkR(ds:List (Int × List Int)):xS ds ds.length=zA ds:=by
 unfold xS;rw[Nat.sub_self,List.replicate_zero,List.append_nil,<-ZD ds,List.take_length]
theorem zjj{ds:List (Int × List Int)}{k:Nat}{d:Int × List Int}(h:ds[k]?=some d):(xS ds k).set k (-d.1)=xS ds (k+1):=by
 have hk:=(List.getElem?_eq_some_iff.1 h).1;have he:(zA ds)[k]?=some (-d.1):=by simp[zA,h]
 apply List.ext_getElem?;intro i;rw[List.getElem?_set,zcV ds (by omega)];unfold xS
 by_cases e:k=i
 ·subst e;rw[if_pos rfl,if_pos hk,List.getElem?_append_left (by rw[List.length_take,ZD];omega),List.getElem?_take,if_pos (by omega),he]
 ·rw[if_neg e]
  by_cases hlt:i<k
  ·rw[List.getElem?_append_left (by rw[List.length_take,ZD];omega),List.getElem?_append_left (by rw[List.length_take,ZD];omega),List.getElem?_take,List.getElem?_take,if_pos hlt,if_pos (by omega)]
  ·rw[List.getElem?_append_right (by rw[List.length_take,ZD];omega),List.getElem?_append_right (by rw[List.length_take,ZD];omega),List.length_take,List.length_take,ZD,Nat.min_eq_left (by omega),Nat.min_eq_left (by omega),List.getElem?_replicate,List.getElem?_replicate]
   by_cases h2:i<ds.length
   ·rw[if_pos (by omega),if_pos (by omega)]
   ·rw[if_neg (by omega),if_neg (by omega)]
theorem zk9(l:List Int)(k:Nat)(x:Int):(icells l).set k (.int .i64 x)=icells (l.set k x):=by simp[icells,List.map_set]
theorem zj9(n:Nat):(madeCells #[Value.int .i64 0] n).toList=icells (List.replicate n 0):=by rw[toList_madeCells_one];simp[icells]
end
section
open Go.RowKit Go.Deep
theorem znl:(Tryz.prog.info? 148).map (·.size)=some 25:=by kernel_rfl
theorem zge(d:Int × List Int):∀v∈yT d,v.oneCell'=true:=fun v hv=>by
 rcases List.mem_cons.1 hv with h|h
 ·rw[h];rfl
 ·exact zeW _ v h
theorem zkp{B n g cap:Nat}{w:World}{ds:List (Int × List Int)}(h:w.ownsRow B 148 25 (.slice (some ⟨g,0,none⟩) n cap) n (zV ds)){k:Nat}{d:Int × List Int}(hk:ds[k]?=some d)(hn:n=ds.length):w.rangeAt g (k*25) (yT d):=by
 intro j v hj;have hj25:j<25:=by have:=(List.getElem?_eq_some_iff.1 hj).1;rw[Qt] at this;exact this
 have hkl:=(List.getElem?_eq_some_iff.1 hk).1;have:=h.cellAt (k*25+j) (by omega);rw[this,Yg hk j hj25];exact hj
theorem zfi(w:World)(p:Addr)(v u:Value){t:TypeId}:∀(j:Nat) (x:Value),[u][j]?=some x->((w.setCell p v).alloc (.cells #[u] t)).cell? ((⟨w.heap.size,0,none⟩:Addr).add j)=some x:=by
 have e:(w.setCell p v).heap.size=w.heap.size:=by simp[World.setCell]
 have h:=World.news_of_block (heap_alloc_new (w.setCell p v) (.cells #[u] t));rw[e] at h;exact h
structure zjT(wr W2:World)(x:Int):Prop where
 below:zB wr W2
 c0:W2.cell? ⟨wr.heap.size,0,none⟩=some (.int .i64 x)
 size:wr.heap.size<W2.heap.size
theorem zit(wr:World)(Z:Array Value)(hZ:Z.size=25)(x:Int)(V:List Value)(hV:V.length=24):zjT wr ((wr.alloc (.cells Z 148)).setCells wr.heap.size 0 (.int .i64 x :: V)) x/\(wr.alloc (.cells Z 148)).there wr.heap.size 0 25:=by
 have hb:=Blk.new wr 148 Z;have hth:(wr.alloc (.cells Z 148)).there wr.heap.size 0 25:=fun j hj=>by
  refine⟨?_,hb.frozen _⟩;rw[hb.cell,Nat.zero_add,Array.getElem?_eq_getElem (by omega)];rfl
 have hbe:zB wr ((wr.alloc (.cells Z 148)).setCells wr.heap.size 0 (.int .i64 x :: V)):=Kx zN _ _ _ (below_new wr _);refine⟨⟨hbe,?_,?_⟩,hth⟩
 ·have:=World.rangeAt_setCells_same (wr.alloc (.cells Z 148)) wr.heap.size 0 (.int .i64 x :: V) (by rw[List.length_cons,hV];exact hth) 0 _ rfl;exact this
 ·have h2:Blk ((wr.alloc (.cells Z 148)).setCells wr.heap.size 0 (.int .i64 x :: V)) wr.heap.size 148 _:=zaN (cs:=Z.toList) (by simpa using hb) (.int .i64 x :: V) 0 (by simp[hV,hZ]);exact h2.lt
theorem zg6(B sb:Nat)(l:List (List Int))(s:St)(cV dV pV:Value)(hd:s.decs.length<=24)(hds:∀d∈s.decs,-24<=d.1/\d.1<=24)(hp:s.prf.length<2000)(hl:l.length<=200)(w:World)(hB:B<=w.heap.size)(h:SAt B w sb l s cV dV pV) :
  zC 23 #[.pointer (some ⟨sb,0,none⟩)] w fun e w'=>e=.returned (.tuple #[])/\(∃cV' pV',SAt B w' sb l ⟨s.told,s.decs,s.prf++[zA s.decs]⟩ cV' dV pV')/\Below B w w':=by
 obtain⟨i0,hin,hz0,hz1,hz2⟩:=info_parts ZR;obtain⟨ic,hic,hc0,hc1,hc2⟩:=info_parts YQ;have hform:∃a cap,dV=.slice a s.decs.length cap/\(0<s.decs.length->∃g,a=some ⟨g,0,none⟩/\g<w.heap.size):=by
  rcases h.drow.2 with ⟨e,e0⟩|⟨g,cap,cur,e,-,hg,-⟩
  ·exact⟨none,0,by rw[e,e0],fun h=>by omega⟩
  ·exact⟨_,cap,e,fun _=>⟨g,rfl,(Array.getElem?_eq_some_iff.1 hg).1⟩⟩
 obtain⟨da,dcap,rfl,hform⟩:=hform;have c25:=h.c25;have HS:=zH h;have HF:=zH hform;have HDS:=zH hds;clear h hform hds;generalize hn:s.decs.length=n at *;go_enter Tryz.func23,Tryz.ntmps23;go_wp2_with (at_make;refine wpList_make_full _ rfl _ _ 43 rfl w.heap.size 3 i0 (.int .i64 0) 1 Tryz.underlying43 hin hz0 hz1 .i64 .i64 _ _ n rfl rfl ?c1 ?c2 ?c3 ?c4 ?c5 ?_)
 case c1=>rfl
 case c2=>rfl
 case c3=>rw[hz2];omega
 case c4=>unfold maxLen;omega
 case c5=>omega
 intro w1 hown hgrow;have hown0:w1.ownsRow w.heap.size 3 1 (.slice (some ⟨w.heap.size,0,none⟩) n n) n (icells (xS s.decs 0)):=by
  rw[zkU,hn,<-zj9];simpa using hown
 have hbel:zB w w1:=zF.grown hgrow zN (fun k hk=>by cases hk);have c25':=(HS.out.new hbel).c25;have HO:=zH hown0;have HB1:=zH hbel;have HN:=zH hn;clear hown hown0 hgrow hbel c25 hn;go_wp2_with fail;go_loopw [16] (fun kV wr=>∃k:Nat,k<=n/\kV=.int .i64 k/\wr.ownsRow w.heap.size 3 1 (.slice (some ⟨w.heap.size,0,none⟩) n n) n (icells (xS s.decs k))/\zB w wr) (fun kV _=>n-(intOf kV).toNat)
 case atStart=>exact⟨0,Nat.zero_le _,rfl,HO.out,HB1.out⟩
 case round =>
  obtain⟨k,hk,rfl,hrow,hbr⟩:=hrel;clear HO c25' HB1
  by_cases hlt:k<n
  ·obtain⟨g,rfl,hgl⟩:=HF.out (by omega);obtain⟨d,hdk⟩:∃d,s.decs[k]?=some d:=⟨_,List.getElem?_eq_getElem (by rw[HN.out];exact hlt)⟩;have hS:=HS.out.new hbr;have hdr:=hS.drow;rw[HN.out] at hdr;have hrg:=zkp hdr hdk HN.out.symm;have hcp:=zit wr #[.int .i64 0,.int .i8 0,.int .i8 0,.int .i8 0,.int .i8 0,.int .i8 0,.int .i8 0,.int .i8 0,.int .i8 0,.int .i8 0,.int .i8 0,.int .i8 0,.int .i8 0,.int .i8 0,.int .i8 0,.int .i8 0,.int .i8 0,.int .i8 0,.int .i8 0,.int .i8 0,.int .i8 0,.int .i8 0,.int .i8 0,.int .i8 0,.int .i8 0] rfl d.1 (tvl d.2) (qy _);obtain⟨⟨cb0,cc,csz⟩,hth⟩:=hcp;have cb:zB wr ((wr.alloc (.cells #[.int .i64 0,.int .i8 0,.int .i8 0,.int .i8 0,.int .i8 0,.int .i8 0,.int .i8 0,.int .i8 0,.int .i8 0,.int .i8 0,.int .i8 0,.int .i8 0,.int .i8 0,.int .i8 0,.int .i8 0,.int .i8 0,.int .i8 0,.int .i8 0,.int .i8 0,.int .i8 0,.int .i8 0,.int .i8 0,.int .i8 0,.int .i8 0,.int .i8 0] 148)).setCells wr.heap.size 0 (yT d)):=cb0;clear cb0;have hrow2:=znF hrow cb;have hln:=zcV s.decs (k:=k) (by rw[HN.out];exact hk);rw[HN.out] at hln;have hck:((wr.alloc (.cells #[.int .i64 0,.int .i8 0,.int .i8 0,.int .i8 0,.int .i8 0,.int .i8 0,.int .i8 0,.int .i8 0,.int .i8 0,.int .i8 0,.int .i8 0,.int .i8 0,.int .i8 0,.int .i8 0,.int .i8 0,.int .i8 0,.int .i8 0,.int .i8 0,.int .i8 0,.int .i8 0,.int .i8 0,.int .i8 0,.int .i8 0,.int .i8 0,.int .i8 0] 148)).setCells wr.heap.size 0 (yT d)).cell? ⟨w.heap.size,k,none⟩=some (.int .i64 ((xS s.decs k).getD k 0)):=by
    have:=hrow2.cellAt k (by omega);rw[ZV _ _ (by omega)] at this;exact this
   have hfk:((wr.alloc (.cells #[.int .i64 0,.int .i8 0,.int .i8 0,.int .i8 0,.int .i8 0,.int .i8 0,.int .i8 0,.int .i8 0,.int .i8 0,.int .i8 0,.int .i8 0,.int .i8 0,.int .i8 0,.int .i8 0,.int .i8 0,.int .i8 0,.int .i8 0,.int .i8 0,.int .i8 0,.int .i8 0,.int .i8 0,.int .i8 0,.int .i8 0,.int .i8 0,.int .i8 0] 148)).setCells wr.heap.size 0 (yT d)).frozen? ⟨w.heap.size,k,none⟩=false:=hrow2.frozenAt k;have hst:=(hrow2.stored k (.int .i64 (-d.1))).1;rw[zk9,zjj hdk] at hst;have hxb:=HDS.out d (List.mem_of_getElem? hdk);have HST:=zH hst;have hbb:=(zT hbr cb);have HB2:=zH (hbb.setCell (p:=⟨w.heap.size,k,none⟩) zN (.int .i64 (-d.1)));have HRG:=zH hrg;have HTH:Hid ((wr.alloc (.cells #[.int .i64 0,.int .i8 0,.int .i8 0,.int .i8 0,.int .i8 0,.int .i8 0,.int .i8 0,.int .i8 0,.int .i8 0,.int .i8 0,.int .i8 0,.int .i8 0,.int .i8 0,.int .i8 0,.int .i8 0,.int .i8 0,.int .i8 0,.int .i8 0,.int .i8 0,.int .i8 0,.int .i8 0,.int .i8 0,.int .i8 0,.int .i8 0,.int .i8 0] 148)).there wr.heap.size 0 (yT d).toArray.size):=by have e:(yT d).toArray.size=25:=(List.size_toArray ..).trans (Qt d);rw[e];exact hth
   have HI:Hid ((Tryz.prog.info? 148).map (·.size)=some (yT d).length):=by rw[Qt];exact znl
   have HON:=zH (all_oneCell_toArray (zge d));have hu:=zH Tryz.underlying148;clear hdr hrow hbr hS hrg hth hrow2 hst hbb cb csz;have ccc:((wr.alloc (.cells #[.int .i64 0,.int .i8 0,.int .i8 0,.int .i8 0,.int .i8 0,.int .i8 0,.int .i8 0,.int .i8 0,.int .i8 0,.int .i8 0,.int .i8 0,.int .i8 0,.int .i8 0,.int .i8 0,.int .i8 0,.int .i8 0,.int .i8 0,.int .i8 0,.int .i8 0,.int .i8 0,.int .i8 0,.int .i8 0,.int .i8 0,.int .i8 0,.int .i8 0] 148)).setCells wr.heap.size 0 (yT d)).cell? ⟨wr.heap.size,0,none⟩=some (.int .i64 d.1):=cc;clear cc;generalize yT d=D at *;generalize (xS s.decs k).getD k 0=old at *;generalize d.1=x at *;obtain⟨hx0,hx1⟩:=hxb;go_wp2_with (first
    |(refine wpList_load_mid (by rfl) 148 _ (by rfl) g (k*25) (by rfl) D _ HRG.out hu.out (by rfl) HI.out ?_)
    |(refine wpList_store_mid (by rfl) 148 _ _ (by rfl) wr.heap.size 0 D.toArray (by rfl) (by rfl) HTH.out (by simpa using HI.out) HON.out ?_)
    | fail)
   go_roundw
   case rel=>exact⟨k+1,hlt,by go_num,HST.out,HB2.out⟩
   case measure=>simp[intOf];omega
  ·obtain rfl:k=n:=by omega
   have hS:=(HS.out.new hbr).sg;have hcl:(zA s.decs).length=k:=by rw[ZD];exact HN.out
   have hrow':wr.ownsRow w.heap.size 3 1 (.slice (some ⟨w.heap.size,0,none⟩) (zA s.decs).length k) (zA s.decs).length (icells (zA s.decs)):=by
    have:=hrow;rw[<-HN.out,zkR,<-ZD s.decs] at this;rw[<-hcl];exact this
   have hik:qA 0 wr (some ⟨w.heap.size,0,none⟩) (zA s.decs):=fun i hi=>by
    obtain⟨ad,e,q1,q2⟩:=Kw hrow' i hi;rcases hrow'.2 with ⟨e',_⟩|⟨g,cap,cur,e',_,hg,_⟩
    ·cases e'
    ·cases e';cases e;exact⟨_,rfl,q1,Or.inr ⟨cur,_,hg⟩,q2⟩
   obtain⟨ps,hps,hpk⟩:=hS.prow;obtain⟨pa,pc,rfl,-,-⟩:=row_form hps;have c26:=hS.c26;have hws:=hbr.size;have HSS:=zH hS;have HIK:=zH hik;have HPS:=zH hps;have HPK:=zH hpk;have HBR:=zH hbr;have HCL:=zH hcl;clear hS hik hps hpk hbr hrow hrow' hcl;have hc24:Hid ((zA s.decs).length<=k):=Nat.le_of_eq HCL.out;go_wp2_with (at_builtin;refine wpList_append_own_at _ rfl _ _ 24 rfl B 43 ic (.slice none 0 0) 1 24 Tryz.underlying24 hic hc0 hc1 hc2 rfl (by decide) _ _ _ rfl (HPS.out.alloc _) ⟨wr.heap.size,0,none⟩ 1 1 [.slice (some ⟨w.heap.size,0,none⟩) k k] rfl rfl ?c1 ?c2 ?c3 ?c4 ?c5 ?_)
   case c1=>exact World.news_of_block (heap_alloc_new wr _)
   case c2=>intro u hu;rw[List.mem_singleton] at hu;subst hu;rfl
   case c3=>unfold maxLen;omega
   case c4=>omega
   case c5=>simp;omega
   intro pV' w7 hown7 hgrow7 _ hloc7;obtain⟨pa',pc',rfl,-,-⟩:=row_form hown7;have hbn:=below_new wr (.cells #[.slice (some ⟨w.heap.size,0,none⟩) k k] 43);have hBn:B<=(wr.alloc (.cells #[.slice (some ⟨w.heap.size,0,none⟩) k k] 43)).heap.size:=by simp;omega
   have hgp:=(HSS.out.new hbn).grow_p (c:=zA s.decs) (a:=some ⟨w.heap.size,0,none⟩) (cap:=k) (zZ HPS.out hbn) (HPK.out.kp (Kp.new hbn)) (by rw[HCL.out];exact hown7) hgrow7 (by rw[World.size_alloc];exact hloc7) hBn hc24.out (by omega) (HIK.out.kp (Kp.new hbn));obtain⟨x1,x2,hS8,hb8,hik8⟩:=hgp;have HB8:Hid (Below B w (w7.setCell ⟨sb,26,none⟩ (.slice pa' (s.prf.length+1) pc'))):=((HBR.out.mono hB).trans (hbn.mono (by omega))).trans hb8;have HS8:=zH hS8;have HIK8:=zH hik8;have y0:=hS8.c0;obtain⟨cs,hcs,hck⟩:=hS8.crow;obtain⟨ca,cc,rfl,-,-⟩:=row_form hcs;have HCS:=zH hcs;have HCK:=zH hck;have hz8:w7.heap.size<=(w7.setCell ⟨sb,26,none⟩ (.slice pa' (s.prf.length+1) pc')).heap.size:=by simp[World.setCell]
   have hw7:=hgrow7.size;have hB8:B<=(w7.setCell ⟨sb,26,none⟩ (.slice pa' (s.prf.length+1) pc')).heap.size:=by omega
   have hll:(l++s.prf).length<=2200:=by rw[List.length_append];omega
   clear hown7 hgrow7 hloc7 hbn hBn hS8 hb8 hik8 hcs hck hz8 hw7 HSS HIK HPS HPK HBR;obtain⟨L0,hL0⟩:∃L0,L0=(l++s.prf).length:=⟨_,rfl⟩;rw[<-hL0] at HCS y0 HS8 hll;have HL0:=zH hL0;clear hL0;go_wp2_with (at_builtin;refine wpList_append_own_at _ rfl _ _ 24 rfl B 43 ic (.slice none 0 0) 1 24 Tryz.underlying24 hic hc0 hc1 hc2 rfl (by decide) _ _ _ rfl (HCS.out.alloc _) ⟨w7.heap.size,0,none⟩ 1 1 [.slice (some ⟨w.heap.size,0,none⟩) k k] rfl rfl ?c1 ?c2 ?c3 ?c4 ?c5 ?_)
   case c1=>exact zfi _ _ _ _
   case c2=>intro u hu;rw[List.mem_singleton] at hu;subst hu;rfl
   case c3=>unfold maxLen;omega
   case c4=>omega
   case c5=>rw[World.size_alloc];omega
   intro cV' w9 hown9 hgrow9 _ hloc9;obtain⟨ca',cc',rfl,-,-⟩:=row_form hown9;have hz9:(w7.setCell ⟨sb,26,none⟩ (.slice pa' (s.prf.length+1) pc')).heap.size=w7.heap.size:=by simp[World.setCell]
   generalize w7.setCell ⟨sb,26,none⟩ (.slice pa' (s.prf.length+1) pc')=W8 at *;rw[<-hz9] at hloc9;clear hz9;have hbn:=below_new W8 (.cells #[.slice (some ⟨w.heap.size,0,none⟩) k k] 43);have hBn:B<=(W8.alloc (.cells #[.slice (some ⟨w.heap.size,0,none⟩) k k] 43)).heap.size:=by rw[World.size_alloc];omega
   have hgc:=(HS8.out.new hbn).grow_c (c:=zA s.decs) (a:=some ⟨w.heap.size,0,none⟩) (cap:=k) (by rw[<-HL0.out];exact zZ HCS.out hbn) (HCK.out.kp (Kp.new hbn)) (by rw[HCL.out,<-HL0.out];exact hown9) hgrow9 (by rw[World.size_alloc];exact hloc9) hBn hc24.out (by omega) (HIK8.out.kp (Kp.new hbn)).more;obtain⟨z1,z2,hS9,hb9⟩:=hgc;have HB9:Hid (Below B w (w9.setCell ⟨sb,0,none⟩ (.slice ca' (L0+1) cc'))):=(HB8.out.trans (hbn.mono hB8)).trans hb9;have HS9:Hid (SAt B (w9.setCell ⟨sb,0,none⟩ (.slice ca' (L0+1) cc')) sb l ⟨s.told,s.decs,s.prf++[zA s.decs]⟩ (.slice ca' (L0+1) cc') (.slice da k dcap) (.slice pa' (s.prf.length+1) pc')):=SG.st (by rw[<-List.append_assoc];exact hS9);clear hown9 hgrow9 hloc9 hbn hBn hS9 hb9 HS8 HB8 HCS HCK;go_wp2;refine bodyPost_end (v:=.tuple #[]) (by simp[results,Tryz.results23,go_sem]) rfl ?_;exact⟨rfl,⟨_,_,HS9.out⟩,HB9.out⟩
end
end Go.Proofs.YtjmfeefogikdfaaGreatDoor
