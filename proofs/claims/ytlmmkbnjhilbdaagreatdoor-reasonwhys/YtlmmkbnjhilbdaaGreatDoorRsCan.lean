/- reason: can some lines be together. -/
import Derived.Test.YtlmmkbnjhilbdaaGreatDoorClRefuteW
set_option maxHeartbeats 4000000
set_option maxRecDepth 100000
namespace Go.Proofs.YtlmmkbnjhilbdaaGreatDoor
section
open Go.RowKit Go.Deep
section
variable {v:Nat} {l:List (List Int)} {s:St}
theorem zoP{i x:Int}(h:zG s.told (l++s.prf)=(i,x))(hx:x≠0):qU v l s=.inl ⟨s.told++[x],s.decs,s.prf⟩:=by
  unfold qU;rw[h,if_pos hx]
theorem zll{i:Int}(h:zG s.told (l++s.prf)=(i,0))(hi:0<=i)(hd:s.decs=[]):qU v l s=.inr (.unsat (s.prf++[zA s.decs])):=by
  unfold qU;rw[h,if_neg (by simp),if_pos hi,hd];rfl
theorem zg6{i:Int}{ds:List (Int × List Int)}{d:Int × List Int}(h:zG s.told (l++s.prf)=(i,0))(hi:0<=i)(hd:s.decs=ds++[d])(hp:s.prf.length+1=2000):qU v l s=.inr .limit:=by
  unfold qU;rw[h,if_neg (by simp),if_pos hi,hd];simp[hp]
theorem zjN{i:Int}{ds:List (Int × List Int)}{d:Int × List Int}(h:zG s.told (l++s.prf)=(i,0))(hi:0<=i)(hd:s.decs=ds++[d])(hp:s.prf.length+1≠2000):qU v l s=.inl ⟨d.2,ds,s.prf++[zA s.decs]⟩:=by
  unfold qU;rw[h,if_neg (by simp),if_pos hi,hd];simp[hp]
theorem zja{i:Int}(h:zG s.told (l++s.prf)=(i,0))(hi:i<0)(hl:yX v s.told<0):qU v l s=.inr (.sat s.told):=by
  unfold qU;rw[h,if_neg (by simp),if_neg (by simp;omega),if_pos hl]
theorem ziA{i:Int}(h:zG s.told (l++s.prf)=(i,0))(hi:i<0)(hl:¬yX v s.told<0):qU v l s=.inl ⟨s.told++[yX v s.told+1],s.decs++[(yX v s.told+1,s.told)],s.prf⟩:=by
  unfold qU;rw[h,if_neg (by simp),if_neg (by simp;omega),if_neg hl]
end
def ziP(v:Int)(l:List (List Int))(e:Ending)(w':World):Prop :=
  ((yb v l).1≠0/\∃er,e=.returned (.tuple #[.agg #[.bool false,.int .u64 0,.slice none 0 0],er])/\Z6 w' er (yb v l).1 (yb v l).2) \/
  ((yb v l).1=0/\∃ r,Run v.toNat l st0 r /\
    ((∃ t,r=.sat t/\e=.returned (.tuple #[.agg #[.bool true,.int .u64 ((yO t 24:Nat):Int),.slice none 0 0],.nilIface])) \/
     (∃p a c,r=.unsat p/\e=.returned (.tuple #[.agg #[.bool false,.int .u64 0,.slice a p.length c],.nilIface])/\yr w' a p) \/
     (r=.limit/\e=.returned (.tuple #[.agg #[.bool false,.int .u64 0,.slice none 0 0],.iface 55 (.int .i64 4)]))))
structure zpf(W:World)(b:Nat)(x0 x1 x2 y0 y1 y2:Value):Prop where
  a0:W.cell? ⟨b,0,none⟩=some x0
  f0:W.frozen? ⟨b,0,none⟩=false
  a1:(W.setCell ⟨b,0,none⟩ y0).cell? ⟨b,1,none⟩=some x1
  f1:(W.setCell ⟨b,0,none⟩ y0).frozen? ⟨b,1,none⟩=false
  a2:((W.setCell ⟨b,0,none⟩ y0).setCell ⟨b,1,none⟩ y1).cell? ⟨b,2,none⟩=some x2
  f2:((W.setCell ⟨b,0,none⟩ y0).setCell ⟨b,1,none⟩ y1).frozen? ⟨b,2,none⟩=false
  r0:(((W.setCell ⟨b,0,none⟩ y0).setCell ⟨b,1,none⟩ y1).setCell ⟨b,2,none⟩ y2).cell? ⟨b,0,none⟩=some y0
  r1:(((W.setCell ⟨b,0,none⟩ y0).setCell ⟨b,1,none⟩ y1).setCell ⟨b,2,none⟩ y2).cell? ⟨b,1,none⟩=some y1
  r2:(((W.setCell ⟨b,0,none⟩ y0).setCell ⟨b,1,none⟩ y1).setCell ⟨b,2,none⟩ y2).cell? ⟨b,2,none⟩=some y2
theorem YI{W:World}{b:Nat}{t:TypeId}{x0 x1 x2:Value}(h:Blk W b t #[x0,x1,x2])(y0 y1 y2:Value):zpf W b x0 x1 x2 y0 y1 y2:=by
  have h1:=h.set (i:=0) (v:=y0);have h2:=h1.set (i:=1) (v:=y1);have h3:=h2.set (i:=2) (v:=y2);exact⟨h.cell 0,h.frozen 0,h1.cell 1,h1.frozen 1,h2.cell 2,h2.frozen 2,h3.cell 0,h3.cell 1,h3.cell 2⟩
theorem Z6.set3{W:World}{b:Nat}{e:Value}{m pl:Int}(h:Z6 W e m pl)(hb:W.cell? ⟨b,0,none⟩=some (.bool false))(y0 y1 y2:Value):Z6 (((W.setCell ⟨b,0,none⟩ y0).setCell ⟨b,1,none⟩ y1).setCell ⟨b,2,none⟩ y2) e m pl:=by
  rcases h with h|h|⟨h0,k,h1,h2,h3,h4⟩
  · exact Or.inl h
  · exact Or.inr (Or.inl h)
  · have hk:k≠b:=fun e=>by rw[e,hb] at h3;cases h3
    refine Or.inr (Or.inr ⟨h0,k,by simpa[World.setCell] using h1,h2,?_,?_⟩)
    · rw[World.cell?_setCell_other _ _ _ _ (fun e=>hk (congrArg Addr.block e).symm),World.cell?_setCell_other _ _ _ _ (fun e=>hk (congrArg Addr.block e).symm),World.cell?_setCell_other _ _ _ _ (fun e=>hk (congrArg Addr.block e).symm)];exact h3
    · rw[World.cell?_setCell_other _ _ _ _ (fun e=>hk (congrArg Addr.block e).symm),World.cell?_setCell_other _ _ _ _ (fun e=>hk (congrArg Addr.block e).symm),World.cell?_setCell_other _ _ _ _ (fun e=>hk (congrArg Addr.block e).symm)];exact h4
theorem zno{B b:Nat}{W:World}{t:TypeId}{cs:Array Value}{ps:List Value}{p:List (List Int)}{a:Option Addr}{c:Nat}(hb:Blk W b t cs)(ht:t≠3)(ht2:t≠127)(hk:qe 0 W ps p)(hr:W.ownsRow B 127 1 (.slice a p.length c) p.length ps)(y0 y1 y2:Value) :
    yr (((W.setCell ⟨b,0,none⟩ y0).setCell ⟨b,1,none⟩ y1).setCell ⟨b,2,none⟩ y2) a p:=by
  have h1:=hb.set (i:=0) (v:=y0);have h2:=h1.set (i:=1) (v:=y1);have k1:=hk.kp (Kp.set (B:=0) (i:=0) (v:=y0) (Nat.zero_le _) hb ht);have k2:=k1.kp (Kp.set (B:=0) (i:=1) (v:=y1) (Nat.zero_le _) h1 ht);have k3:=k2.kp (Kp.set (B:=0) (i:=2) (v:=y2) (Nat.zero_le _) h2 ht);have r1:=ownsRow_setCell_other hr (a:=⟨b,0,none⟩) (qW hr hb ht2) y0;have r2:=ownsRow_setCell_other r1 (a:=⟨b,1,none⟩) (qW r1 h1 ht2) y1;have r3:=ownsRow_setCell_other r2 (a:=⟨b,2,none⟩) (qW r2 h2 ht2) y2;exact qe.cls ⟨k3.1,fun i hi=>by
    obtain⟨a',cap,q1,q2,q3,q4⟩:=k3.2 i hi;exact ⟨a',cap,q1,q2,q3,q4.more⟩⟩ r3
structure SS(w wr:World)(rb sb:Nat)(v:Nat)(l:List (List Int))(s:St)(r:Res)(cV dV pV:Value):Prop where
  at':SAt (rb+1) wr sb l s cV dV pV
  good:zu v s
  run:Run v l s r
  below:Below rb w wr
  blk:Blk wr rb 167 #[.bool false,.int .u64 0,.slice none 0 0]
theorem zlZ:(Tryz.prog.info? 226).map (·.size)=some 27:=by kernel_rfl
theorem zoH(va:Option Addr)(n vc:Nat):(#[.slice va n vc,.int .i8 0,.int .i8 0,.int .i8 0,.int .i8 0,.int .i8 0,.int .i8 0,.int .i8 0,.int .i8 0,.int .i8 0,.int .i8 0,.int .i8 0,.int .i8 0,.int .i8 0,.int .i8 0,.int .i8 0,.int .i8 0,.int .i8 0,.int .i8 0,.int .i8 0,.int .i8 0,.int .i8 0,.int .i8 0,.int .i8 0,.int .i8 0,.slice none 0 0,.slice none 0 0]:Array Value).all (·.oneCell')=true :=
  all_oneCell_toArray (cs:=[.slice va n vc,.int .i8 0,.int .i8 0,.int .i8 0,.int .i8 0,.int .i8 0,.int .i8 0,.int .i8 0,.int .i8 0,.int .i8 0,.int .i8 0,.int .i8 0,.int .i8 0,.int .i8 0,.int .i8 0,.int .i8 0,.int .i8 0,.int .i8 0,.int .i8 0,.int .i8 0,.int .i8 0,.int .i8 0,.int .i8 0,.int .i8 0,.int .i8 0,.slice none 0 0,.slice none 0 0]) (fun v hv=>by
    rcases List.mem_cons.1 hv with rfl|hv
    · rfl
    · have:∀u∈([.int .i8 0,.int .i8 0,.int .i8 0,.int .i8 0,.int .i8 0,.int .i8 0,.int .i8 0,.int .i8 0,.int .i8 0,.int .i8 0,.int .i8 0,.int .i8 0,.int .i8 0,.int .i8 0,.int .i8 0,.int .i8 0,.int .i8 0,.int .i8 0,.int .i8 0,.int .i8 0,.int .i8 0,.int .i8 0,.int .i8 0,.int .i8 0,.slice none 0 0,.slice none 0 0]:List Value),u.oneCell'=true:=by decide
      exact this v hv)
theorem zi5{w w1 w2 WS:World}{n:Nat}{l:List (List Int)}{r:Res}{va:Option Addr}{vc:Nat}{cs:List Value}(hbn:zB w2 WS)(hbs:Blk WS w2.heap.size 226 #[.slice none 0 0,.int .i8 0,.int .i8 0,.int .i8 0,.int .i8 0,.int .i8 0,.int .i8 0,.int .i8 0,.int .i8 0,.int .i8 0,.int .i8 0,.int .i8 0,.int .i8 0,.int .i8 0,.int .i8 0,.int .i8 0,.int .i8 0,.int .i8 0,.int .i8 0,.int .i8 0,.int .i8 0,.int .i8 0,.int .i8 0,.int .i8 0,.int .i8 0,.slice none 0 0,.slice none 0 0])(hrow:w2.ownsRow w1.heap.size 127 1 (.slice va l.length vc) l.length cs)(hck:qe (w.heap.size+1) w2 cs l)(hs1:w.heap.size+1<=w1.heap.size)(hs2:w1.heap.size<=w2.heap.size)(hB1:zB w w1)(hBL:Blk w1 w.heap.size 167 #[.bool false,.int .u64 0,.slice none 0 0])(hb2:zB w1 w2)(hrun:Run n l st0 r) :
    SS w (WS.setCells w2.heap.size 0 [.slice va l.length vc,.int .i8 0,.int .i8 0,.int .i8 0,.int .i8 0,.int .i8 0,.int .i8 0,.int .i8 0,.int .i8 0,.int .i8 0,.int .i8 0,.int .i8 0,.int .i8 0,.int .i8 0,.int .i8 0,.int .i8 0,.int .i8 0,.int .i8 0,.int .i8 0,.int .i8 0,.int .i8 0,.int .i8 0,.int .i8 0,.int .i8 0,.int .i8 0,.slice none 0 0,.slice none 0 0]) w.heap.size w2.heap.size n l st0 r (.slice va l.length vc) (.slice none 0 0) (.slice none 0 0)/\WS.there w2.heap.size 0 27:=by
  have hrowS:=zU (ownsRow_base hrow hs1) hbn;have hne:=qW hrowS hbs (by decide);have hset:=zaf (cs:=[.slice none 0 0,.int .i8 0,.int .i8 0,.int .i8 0,.int .i8 0,.int .i8 0,.int .i8 0,.int .i8 0,.int .i8 0,.int .i8 0,.int .i8 0,.int .i8 0,.int .i8 0,.int .i8 0,.int .i8 0,.int .i8 0,.int .i8 0,.int .i8 0,.int .i8 0,.int .i8 0,.int .i8 0,.int .i8 0,.int .i8 0,.int .i8 0,.int .i8 0,.slice none 0 0,.slice none 0 0]) hbs [.slice va l.length vc,.int .i8 0,.int .i8 0,.int .i8 0,.int .i8 0,.int .i8 0,.int .i8 0,.int .i8 0,.int .i8 0,.int .i8 0,.int .i8 0,.int .i8 0,.int .i8 0,.int .i8 0,.int .i8 0,.int .i8 0,.int .i8 0,.int .i8 0,.int .i8 0,.int .i8 0,.int .i8 0,.int .i8 0,.int .i8 0,.int .i8 0,.int .i8 0,.slice none 0 0,.slice none 0 0] 0 (by simp);have hblA:=(hBL.below hb2 hBL.lt).below hbn (hBL.below hb2 hBL.lt).lt;have hkp:Kp (w.heap.size+1) WS (WS.setCells w2.heap.size 0 [.slice va l.length vc,.int .i8 0,.int .i8 0,.int .i8 0,.int .i8 0,.int .i8 0,.int .i8 0,.int .i8 0,.int .i8 0,.int .i8 0,.int .i8 0,.int .i8 0,.int .i8 0,.int .i8 0,.int .i8 0,.int .i8 0,.int .i8 0,.int .i8 0,.int .i8 0,.int .i8 0,.int .i8 0,.int .i8 0,.int .i8 0,.int .i8 0,.int .i8 0,.slice none 0 0,.slice none 0 0]):=zaB (by omega) (by decide) _ _ _ _ hbs;refine⟨⟨⟨hset,by omega,⟨cs,?_,?_⟩,⟨[],World.ownsRow_nil _ _ _ _,qe.nil⟩,World.ownsRow_nil _ _ _ _,?_⟩,Kt n,hrun,Jn (by omega) _ _ _ ((zT hB1 hb2).trans (hbn.mono (by omega))),?_⟩,?_⟩
  · have:=XZ hne [.slice va l.length vc,.int .i8 0,.int .i8 0,.int .i8 0,.int .i8 0,.int .i8 0,.int .i8 0,.int .i8 0,.int .i8 0,.int .i8 0,.int .i8 0,.int .i8 0,.int .i8 0,.int .i8 0,.int .i8 0,.int .i8 0,.int .i8 0,.int .i8 0,.int .i8 0,.int .i8 0,.int .i8 0,.int .i8 0,.int .i8 0,.int .i8 0,.int .i8 0,.slice none 0 0,.slice none 0 0] 0 _ hrowS
    simpa[st0] using this
  · have:=(hck.kp (Kp.new (B:=w.heap.size+1) hbn)).kp hkp
    simpa[st0] using this
  · cases va with
    |none=>exact Or.inl rfl
    |some ad=>exact Or.inr (by simp[Value.ownBlock])
  · have:=hkp.block w.heap.size hblA.lt (Or.inl (by omega))
    exact this.trans hblA
  · intro j hj
    refine⟨?_,hbs.frozen _⟩;rw[hbs.cell,Nat.zero_add,Array.getElem?_eq_getElem (by simpa using hj)];rfl
theorem zhv(v:Int)(l:List (List Int))(a:Option Addr)(cap:Nat)(hn:a=none->cap=0)(w:World)(hI:yr w a l)(hm:l.length<=9223372036854775807) :
    zC 79 #[.int .i64 v,.slice a l.length cap] w fun e w'=>ziP v l e w'/\zB w w':=by
  have hbA:=below_new w (.cells #[.bool false,.int .u64 0,.slice none 0 0] 167);have hIA:=hI.below hbA;have hblkA:=Blk.new w 167 #[.bool false,.int .u64 0,.slice none 0 0];have HCH:=zH (zpm v l a cap _ hIA hm);have hszA:(w.alloc (.cells #[.bool false,.int .u64 0,.slice none 0 0] 167)).heap.size=w.heap.size+1:=by simp
  have HBA:=zH hbA;have HIA:=zH hIA;have HBLK:=zH hblkA;have HSZ:=zH hszA;clear hI hbA hIA hblkA hszA;go_enter Tryz.func79,Tryz.ntmps79;go_wp2_with fail;generalize w.alloc (.cells #[.bool false,.int .u64 0,.slice none 0 0] 167)=WA at *;refine HCH.out.mono ?_;rintro e w1 ⟨er,rfl,her,hb1⟩;replace hb1:=hb1.mono (Nat.le_of_eq HSZ.out.symm);have hbl1:=HBLK.out.below hb1 (by omega);have hbw1:zB w w1:=HBA.out.trans (hb1.mono (by omega));clear HCH
  by_cases hz:(yb v l).1=0
  · obtain⟨hv0,hv1,hl200,hls,hck,hcl⟩:=zpy hz
    obtain rfl:er=.nilIface:=by
      rcases her with h|h|h
      · exact h.2.2
      · exact absurd hz h.1
      · exact absurd hz h.1
    obtain⟨n,rfl⟩:∃n:Nat,v=(n:Int):=⟨v.toNat,by omega⟩;obtain⟨r,hrun⟩:=zot (v:=n) (l:=l) (by omega) hls (mu st0) st0 zN (Kt n);have HCL:=zH (zbf WA l a cap hn (by omega) w1 HIA.out (hb1.mono (Nat.le_of_eq HSZ.out)));have HZ:=zH hz;have HLS:=zH hls;have HRUN:=zH hrun;have HB1:=zH hbw1;have HBL:=zH hbl1;have hs1:=hb1.size;clear her hz hls hck hcl hb1 hbl1 hbw1 hrun HBA HIA HBLK;go_wp2_with fail;refine HCL.out.mono ?_;rintro e w2 ⟨va,vc,rfl,⟨cs,hrow,hck⟩,hb2⟩;have hs2:=hb2.size;rw[HSZ.out] at hs1 hck;have hbn:=below_new w2 (.cells #[.slice none 0 0,.int .i8 0,.int .i8 0,.int .i8 0,.int .i8 0,.int .i8 0,.int .i8 0,.int .i8 0,.int .i8 0,.int .i8 0,.int .i8 0,.int .i8 0,.int .i8 0,.int .i8 0,.int .i8 0,.int .i8 0,.int .i8 0,.int .i8 0,.int .i8 0,.int .i8 0,.int .i8 0,.int .i8 0,.int .i8 0,.int .i8 0,.int .i8 0,.slice none 0 0,.slice none 0 0] 226);have hstart:=zi5 (w:=w) (n:=n) (l:=l) (r:=r) hbn (Blk.new _ _ _) hrow hck hs1 hs2 HB1.out HBL.out hb2 HRUN.out;have HST:=zH hstart.1;have HTH:=zH hstart.2;have HON:=zH (zoH va l.length vc);clear hrow hck hb2 hstart HCL HB1 HBL hbn;go_wp2_with (first
      |(refine wpList_store_mid (by rfl) 226 _ _ (by rfl) w2.heap.size 0 #[.slice va l.length vc,.int .i8 0,.int .i8 0,.int .i8 0,.int .i8 0,.int .i8 0,.int .i8 0,.int .i8 0,.int .i8 0,.int .i8 0,.int .i8 0,.int .i8 0,.int .i8 0,.int .i8 0,.int .i8 0,.int .i8 0,.int .i8 0,.int .i8 0,.int .i8 0,.int .i8 0,.int .i8 0,.int .i8 0,.int .i8 0,.int .i8 0,.int .i8 0,.slice none 0 0,.slice none 0 0] (by rfl) (by rfl) HTH.out zlZ HON.out ?_)
      | fail)
    generalize (w2.alloc (.cells #[.slice none 0 0,.int .i8 0,.int .i8 0,.int .i8 0,.int .i8 0,.int .i8 0,.int .i8 0,.int .i8 0,.int .i8 0,.int .i8 0,.int .i8 0,.int .i8 0,.int .i8 0,.int .i8 0,.int .i8 0,.int .i8 0,.int .i8 0,.int .i8 0,.int .i8 0,.int .i8 0,.int .i8 0,.int .i8 0,.int .i8 0,.int .i8 0,.int .i8 0,.slice none 0 0,.slice none 0 0] 226)).setCells w2.heap.size 0 [.slice va l.length vc,.int .i8 0,.int .i8 0,.int .i8 0,.int .i8 0,.int .i8 0,.int .i8 0,.int .i8 0,.int .i8 0,.int .i8 0,.int .i8 0,.int .i8 0,.int .i8 0,.int .i8 0,.int .i8 0,.int .i8 0,.int .i8 0,.int .i8 0,.int .i8 0,.int .i8 0,.int .i8 0,.int .i8 0,.int .i8 0,.int .i8 0,.int .i8 0,.slice none 0 0,.slice none 0 0]=W3 at *;simp only[Act.put];go_loopg [8] (mu st0) (fun k _ wr=>∃(s:St) (cV dV pV:Value),SS w wr w.heap.size w2.heap.size n l s r cV dV pV/\mu s<=k)
    case atStart=>exact⟨st0,_,_,_,HST.out,Nat.le_refl _⟩
    case round =>
      obtain⟨s,cV,dV,pV,hss,hmu⟩:=hrel;clear HST;obtain⟨cs,hcs,hck⟩:=hss.at'.crow;obtain⟨ca,cc,rfl,-,-⟩:=row_form hcs;have hlp:qs n (l++s.prf):=YZ HLS.out hss.good.litsP;have h24:qs 24 (l++s.prf):=fun c hc x hx=>Zz hv1 (hlp c hc x hx);have c0:=hss.at'.c0;have hpl:=hss.good.pl;have hll:(l++s.prf).length<=2200:=by rw[List.length_append];omega
      have HN:=zjO ⟨w2.heap.size,1,none⟩ s.told hss.good.cons (l++s.prf) h24 ca cc wr hss.at'.vals (hck.cls hcs) (by omega);have hnx:=XK (l:=l++s.prf) hss.good.cons;have HSS:=zH hss;have HLP:=zH hlp;have hsg:Hid (∀s',qU n l s=.inl s'->zu n s'/\mu s'<mu s):=fun s' h=>XP (by omega) HLS.out hss.good h;generalize hr:zG s.told (l++s.prf)=nx at *;obtain⟨i,x⟩:=nx;have HR:=zH hr;obtain⟨L0,hL0⟩:∃L0,L0=(l++s.prf).length:=⟨_,rfl⟩;rw[<-hL0] at HN c0 hll;simp only at HN;have HNN:=zH HN;have hi01:(i=-1/\x=0)\/0<=i:=by
        cases hnx with
        |none=>exact Or.inl ⟨rfl,rfl⟩
        |bad=>exact Or.inr (by omega)
        |one=>exact Or.inr (by omega)
      clear hcs hck hlp h24 hnx hr HN hss hL0
      by_cases hx0:x=0
      · subst hx0
        by_cases hi:0<=i
        · -- a clause can't hold
          have hdl:s.decs.length<=24:=by have:=HSS.out.good.few;omega
          clear hi01;go_wp2_with fail;refine HNN.out.mono ?_;rintro e w3 ⟨rfl,hb3⟩;have ha3:=HSS.out.at'.new hb3;have hbl3:=HSS.out.blk.below hb3 HSS.out.blk.lt;have hbw3:=zT HSS.out.below hb3;have hB3:w.heap.size+1<=w3.heap.size:=by have:=hbl3.lt;omega
          have HRF:=zH (zlF (w.heap.size + 1) w2.heap.size l s _ _ _ hdl (fun d hd=>by
            obtain⟨k,hk⟩:=List.getElem?_of_mem hd;have:=(HSS.out.good.ds k d hk).2.2.2;rw [qG] at this;omega) hpl hl200 w3 hB3 ha3)
          have HBL3:=zH hbl3;have HBW3:=zH hbw3;clear hb3 ha3 hbl3 hbw3 HNN;go_wp2_with fail;refine HRF.out.mono ?_;rintro e w4 ⟨rfl,⟨cV',pV',ha4⟩,hb4⟩;have hbl4:=HBL3.out.below hb4 (by omega);have hbw4:zB w w4:=HBW3.out.trans (hb4.mono (by omega));obtain⟨ps,hps,hpk⟩:=ha4.prow;obtain⟨pa,pc,rfl,-,-⟩:=row_form hps;have d25:=ha4.c25;have d26:=ha4.c26;have hprl:(s.prf++[zA s.decs]).length=s.prf.length+1:=by simp
          have HPC:Hid (∀(y0 y1 y2:Value),yr (((w4.setCell ⟨w.heap.size,0,none⟩ y0).setCell ⟨w.heap.size,1,none⟩ y1).setCell ⟨w.heap.size,2,none⟩ y2) pa (s.prf++[zA s.decs])):=fun y0 y1 y2=>zno hbl4 (by decide) (by decide) hpk hps y0 y1 y2;simp only[hprl] at d26;obtain⟨da,dc,rfl⟩:∃a c,dV=.slice a s.decs.length c:=by
            rcases ha4.drow.2 with ⟨e,e0⟩|⟨g,cap,cur,e,-⟩
            · exact⟨none,0,by rw[e];exact congrArg (fun k=>Value.slice none k 0) e0.symm⟩
            · exact⟨_,_,e⟩
          have HA4:=zH ha4;have HB4:=zH hb4;have HBL4:=zH hbl4;have HBW4:=zH hbw4;have HPRL:=zH hprl;clear ha4 hb4 hbl4 hbw4 hps hpk HRF HBL3 HBW3 hprl
          by_cases hd0:s.decs=[]
          · have HRES:=zH (HSS.out.run.at_done (zll HR.out hi hd0))
            have hdz:s.decs.length=0:=by rw[hd0];rfl
            rw[hdz] at d25;have P:=YI HBL4.out (.bool false) (.int .u64 0) (.slice pa (s.prf.length+1) pc);have q0:=P.a0;have f0:=P.f0;have q1:=P.a1;have f1:=P.f1;have q2:=P.a2;have f2:=P.f2;have HP:=zH P;have HPB:Hid (zB w (((w4.setCell ⟨w.heap.size,0,none⟩ (.bool false)).setCell ⟨w.heap.size,1,none⟩ (.int .u64 0)).setCell ⟨w.heap.size,2,none⟩ (.slice pa (s.prf.length+1) pc))):=((HBW4.out.setCell zN _).setCell zN _).setCell zN _;have HPC2:Hid (yr (((w4.setCell ⟨w.heap.size,0,none⟩ (.bool false)).setCell ⟨w.heap.size,1,none⟩ (.int .u64 0)).setCell ⟨w.heap.size,2,none⟩ (.slice pa (s.prf.length+1) pc)) pa (s.prf++[zA s.decs])):=HPC.out _ _ _;clear P hdz hd0 HPC;go_wp2;refine bodyPost_ret (v:=.tuple #[.agg #[.bool false,.int .u64 0,.slice pa (s.prf.length+1) pc],.nilIface]) (by simp[results,Tryz.results79,go_sem,HP.out.r0,HP.out.r1,HP.out.r2]) rfl ?_;refine⟨Or.inr ⟨HZ.out,r,HRUN.out,Or.inr (Or.inl ⟨_,pa,pc,HRES.out,?_,HPC2.out⟩)⟩,HPB.out⟩;rw[HPRL.out]
          · obtain⟨ds,⟨y,t⟩,hds⟩:∃ds d,s.decs=ds++[d]:=⟨_,_,(List.dropLast_concat_getLast hd0).symm⟩
            have hpos:¬s.decs.length=0:=fun h=>hd0 (List.length_eq_zero_iff.1 h);have hdn:((s.decs.length:Int)==0)=false:=by simp;omega
            by_cases hlim:s.prf.length+1=2000
            · have HRES:=zH (HSS.out.run.at_done (zg6 HR.out hi hds hlim))
              have P:=YI HBL4.out (.bool false) (.int .u64 0) (.slice none 0 0);have q0:=P.a0;have f0:=P.f0;have q1:=P.a1;have f1:=P.f1;have q2:=P.a2;have f2:=P.f2;have HP:=zH P;have HPB:Hid (zB w (((w4.setCell ⟨w.heap.size,0,none⟩ (.bool false)).setCell ⟨w.heap.size,1,none⟩ (.int .u64 0)).setCell ⟨w.heap.size,2,none⟩ (.slice none 0 0))):=((HBW4.out.setCell zN _).setCell zN _).setCell zN _;clear P hd0 hds HPC;generalize s.decs.length=dl at *;rw[hlim] at d26;go_wp2;refine bodyPost_ret (v:=.tuple #[.agg #[.bool false,.int .u64 0,.slice none 0 0],.iface 55 (.int .i64 4)]) (by simp[results,Tryz.results79,go_sem,HP.out.r0,HP.out.r1,HP.out.r2]) rfl ?_;exact⟨Or.inr ⟨HZ.out,r,HRUN.out,Or.inr (Or.inr ⟨HRES.out,rfl⟩)⟩,HPB.out⟩
            · have hst:=zjN (v:=n) HR.out hi hds hlim
              have HGO:=zH (HSS.out.run.at_go hst);have HGD:=zH (hsg.out _ hst).1;have hmu2:=(hsg.out _ hst).2;have HTB:=zH (zoo (w.heap.size+1) w2.heap.size l ⟨s.told,s.decs,s.prf++[zA s.decs]⟩ _ _ _ ds y t hds hdl w4 HA4.out);have hl2:(((s.prf.length:Int)+1)==2000)=false:=by simp;omega
              have hl3:(((s.prf.length+1:Nat):Int)==2000)=false:=by simp;omega
              clear hst hd0 hds HPC;generalize s.decs.length=dl at *;generalize s.prf.length=pl at *;go_wp2_with fail;refine HTB.out.mono ?_;rintro e w5 ⟨rfl,⟨dV',ha5⟩,hb5⟩;have HS5:Hid (SS w w5 w.heap.size w2.heap.size n l ⟨t,ds,s.prf++[zA s.decs]⟩ r cV' dV' _):=⟨ha5,HGD.out,HGO.out,HBW4.out.trans (hb5.mono (by omega)),HBL4.out.below hb5 (by omega)⟩;clear ha5 hb5 HTB;go_wp2;go_roundg (mu ⟨t,ds,s.prf++[zA s.decs]⟩)
              case rel=>exact⟨_,_,_,_,HS5.out,Nat.le_refl _⟩
              case measure=>exact Nat.lt_of_lt_of_le hmu2 hmu
        · -- nothing follows
          have hi1:i=-1:=by rcases hi01 with h|h<;>omega
          subst hi1;clear hi01;have hn24:n<=24:=by omega
          have hle:=Yd (v:=n) (told:=s.told);have hdl:s.decs.length<=24:=by have:=HSS.out.good.few;omega
          go_wp2_with fail;refine HNN.out.mono ?_;rintro e w3 ⟨rfl,hb3⟩;have ha3:=HSS.out.at'.new hb3;have hbl3:=HSS.out.blk.below hb3 HSS.out.blk.lt;have hbw3:=zT HSS.out.below hb3;have HIX:=zH (zoG ⟨w2.heap.size,1,none⟩ s.told n hn24 24 w3 ha3.vals);have HA3:=zH ha3;have HBL3:=zH hbl3;have HBW3:=zH hbw3;clear hb3 ha3 hbl3 hbw3 HNN;rcases hle with ⟨hneg,-⟩|⟨k,hk,hkn,htz,-⟩
          · have HRES:=zH (HSS.out.run.at_done (zja HR.out (by omega) (by rw[hneg];omega)))
            rw[hneg] at HIX;have HNU:=zH (zkr ⟨w2.heap.size,1,none⟩ s.told w3 HA3.out.vals);clear hneg;obtain⟨N,hN⟩:∃N,N=yO s.told 24:=⟨_,rfl⟩;rw[<-hN] at HNU;have HNE:=zH hN;clear hN;go_wp2_with fail;refine HIX.out.mono ?_;rintro e w4 ⟨rfl,rfl⟩;clear HIX;go_wp2_with fail;refine HNU.out.mono ?_;rintro e w4 ⟨rfl,hb4⟩;have P:=YI (HBL3.out.below hb4 HBL3.out.lt) (.bool true) (.int .u64 N) (.slice none 0 0);have q0:=P.a0;have f0:=P.f0;have q1:=P.a1;have f1:=P.f1;have q2:=P.a2;have f2:=P.f2;have HP:=zH P;have HPB:Hid (zB w (((w4.setCell ⟨w.heap.size,0,none⟩ (.bool true)).setCell ⟨w.heap.size,1,none⟩ (.int .u64 N)).setCell ⟨w.heap.size,2,none⟩ (.slice none 0 0))):=(((zT HBW3.out hb4).setCell zN _).setCell zN _).setCell zN _;clear P hb4 HNU;go_wp2;refine bodyPost_ret (v:=.tuple #[.agg #[.bool true,.int .u64 N,.slice none 0 0],.nilIface]) (by simp[results,Tryz.results79,go_sem,HP.out.r0,HP.out.r1,HP.out.r2]) rfl ?_;exact⟨Or.inr ⟨HZ.out,r,HRUN.out,Or.inl ⟨s.told,HRES.out,by rw[HNE.out]⟩⟩,HPB.out⟩
          · have hst:=ziA (v:=n) HR.out (by omega) (by rw[hk];omega)
            rw[hk] at hst HIX;have HGO:=zH (HSS.out.run.at_go hst);have HGD:=zH (hsg.out _ hst).1;have hmu2:=(hsg.out _ hst).2;obtain⟨z0,z1⟩:=QO.1 htz;have hlk:zO 24 ((k:Int)+1)=true:=by rw[qG];omega
            have HDC:=zH (zlX (w.heap.size+1) w2.heap.size l s _ _ _ ((k:Int)+1) hlk z1 hdl w3 HA3.out);clear hst hk htz z0 z1 hlk;go_wp2_with fail;refine HIX.out.mono ?_;rintro e w4 ⟨rfl,rfl⟩;clear HIX;go_wp2_with fail;refine HDC.out.mono ?_;rintro e w5 ⟨rfl,⟨dV',ha5⟩,hb5⟩;have HS5:Hid (SS w w5 w.heap.size w2.heap.size n l ⟨s.told++[(k:Int)+1],s.decs++[((k:Int)+1,s.told)],s.prf⟩ r _ dV' _):=⟨ha5,HGD.out,HGO.out,HBW3.out.trans (hb5.mono (by omega)),HBL3.out.below hb5 (by omega)⟩;clear ha5 hb5 HDC;go_wp2;go_roundg (mu ⟨s.told++[(k:Int)+1],s.decs++[((k:Int)+1,s.told)],s.prf⟩)
            case rel=>exact⟨_,_,_,_,HS5.out,Nat.le_refl _⟩
            case measure=>exact Nat.lt_of_lt_of_le hmu2 hmu
      · -- a literal is told
        have hst:=zoP (v:=n) HR.out hx0;have HGO:=zH (HSS.out.run.at_go hst);have HGD:=zH (hsg.out _ hst).1;have hmu2:=(hsg.out _ hst).2;obtain⟨p1,p2,p3,-,-⟩:=Ku HLP.out HSS.out.good.cons HSS.out.good.lits HR.out hx0;have hl24:=Zz hv1 p1;have hxn:(x != 0)=true:=by simpa using hx0
        have HPP:Hid (-x∉s.told):=p3;clear hst p1 p2 p3 hi01 hx0;go_wp2_with fail;refine HNN.out.mono ?_;rintro e w3 ⟨rfl,hb3⟩;have ha3:=HSS.out.at'.new hb3;have HT:=zH (zam ⟨w2.heap.size,1,none⟩ s.told x hl24 w3 ha3.vals);have hbl3:=HSS.out.blk.below hb3 HSS.out.blk.lt;have hbw3:=zT HSS.out.below hb3;have hsb:=HSS.out.at'.Bsb;have HS5:Hid (SS w (w3.setCell ((⟨w2.heap.size,1,none⟩:Addr).add (yh x)) (.int .i8 (xz x))) w.heap.size w2.heap.size n l ⟨s.told++[x],s.decs,s.prf⟩ r _ _ _):=⟨ha3.tell hl24 HPP.out,HGD.out,HGO.out,hbw3.setCell (by rw[xD];show w.heap.size<=w2.heap.size;omega) _,by rw[add_plain];exact hbl3.other (by omega)⟩;clear hb3 ha3 hbl3 hbw3 HNN;go_wp2_with fail;refine HT.out.mono ?_;rintro e w4 ⟨rfl,hw4⟩;rw[<-hw4] at HS5;clear hw4 HT;go_wp2;go_roundg (mu ⟨s.told++[x],s.decs,s.prf⟩)
        case rel=>exact⟨_,_,_,_,HS5.out,Nat.le_refl _⟩
        case measure=>exact Nat.lt_of_lt_of_le hmu2 hmu
  · have HZ:=zH hz
    have HER:=zH her;have hnn:∃t u,er=.iface t u:=by
      rcases her with h|h|⟨_,b,_,h,_⟩
      · exact absurd h.1 hz
      · exact⟨_,_,h.2.2⟩
      · exact⟨_,_,h⟩
    obtain⟨t,u,rfl⟩:=hnn;have P:=YI hbl1 (.bool false) (.int .u64 0) (.slice none 0 0);have q0:=P.a0;have f0:=P.f0;have q1:=P.a1;have f1:=P.f1;have q2:=P.a2;have f2:=P.f2;have HP:=zH P;have HB:Hid (zB w (((w1.setCell ⟨w.heap.size,0,none⟩ (.bool false)).setCell ⟨w.heap.size,1,none⟩ (.int .u64 0)).setCell ⟨w.heap.size,2,none⟩ (.slice none 0 0))):=((hbw1.setCell zN _).setCell zN _).setCell zN _;have HK:Hid (Z6 (((w1.setCell ⟨w.heap.size,0,none⟩ (.bool false)).setCell ⟨w.heap.size,1,none⟩ (.int .u64 0)).setCell ⟨w.heap.size,2,none⟩ (.slice none 0 0)) (.iface t u) (yb v l).1 (yb v l).2):=HER.out.set3 (hbl1.cell 0) _ _ _;clear her hz hb1 hbl1 P;go_wp2;refine bodyPost_ret (v:=.tuple #[.agg #[.bool false,.int .u64 0,.slice none 0 0],.iface t u]) (by simp[results,Tryz.results79,go_sem,HP.out.r0,HP.out.r1,HP.out.r2]) rfl ?_;exact⟨Or.inl ⟨HZ.out,_,rfl,HK.out⟩,HB.out⟩
end
section
open Go.RowKit Go.Deep Sv
def inF(m:Nat)(ls:List Nat):List Bool:=(List.range m).map fun i=>decide (i∈ls)
def zM(ls:List Nat):List Int:=ls.map fun n:Nat=>(n:Int)
theorem QB(m:Nat)(ls:List Nat):(inF m ls).length=m:=by simp[inF]
theorem QC{m i:Nat}(ls:List Nat)(h:i<m):(inF m ls).getD i false=decide (i∈ls):=by simp[inF,List.getD_eq_getElem?_getD,h]
def Qx(W:World)(g:Nat)(bs:List Bool):Prop:=∃cur,Blk W g 4 cur/\cur.size=bs.length/\∀j,j<bs.length->cur[j]?=some (.bool (bs.getD j false))
theorem Qx.bools{W:World}{g:Nat}{bs:List Bool}(h:Qx W g bs):Yw W (some ⟨g,0,none⟩) bs:=fun j hj=>by
  obtain⟨cur,h1,_,h3⟩:=h;exact⟨_,rfl,h1.lt,by rw[add_plain,Nat.zero_add,h1.cell j,h3 j hj]⟩
theorem Qx.tell{W:World}{g m:Nat}{ls:List Nat}(h:Qx W g (inF m ls)){n:Nat}(hn:n<m):Qx (W.setCell ⟨g,n,none⟩ (.bool true)) g (inF m (ls++[n])):=by
  obtain⟨cur,h1,h2,h3⟩:=h;rw[QB] at h2 h3;refine⟨_,h1.set,by rw[Array.size_setIfInBounds,QB,h2],fun j hj=>?_⟩;rw[QB] at hj;rw[Array.getElem?_setIfInBounds,QC _ hj]
  by_cases e:n=j
  · subst e
    rw[if_pos rfl,if_pos (by omega)];simp
  · rw[if_neg e,h3 j hj,QC _ hj]
    have:(j∈ls++[n])↔j∈ls:=by simp;exact fun h=>absurd h.symm e
    simp only[this]
theorem zlv(m i:Nat)(h:i<m):(madeCells #[.bool false] m)[i]?=some (.bool false):=by
  simp[madeCells,h,Nat.mod_one]
theorem zlO{W:World}{g m:Nat}{cur:Array Value}(h1:Blk W g 4 cur)(h2:cur.size=m)(h3:cur.toList.take m=(madeCells #[.bool false] m).toList):Qx W g (inF m []):=by
  refine⟨cur,h1,by rw[QB,h2],fun j hj=>?_⟩;rw[QB] at hj;rw[QC _ hj];have e:=congrArg (fun l=>l[j]?) h3;simp only[List.getElem?_take,if_pos hj] at e;rw[Array.getElem?_toList,Array.getElem?_toList,zlv m j hj] at e;rw[e];simp
def YT(v:Nat)(l:List (List Int))(b:Bool)(er:Value):Prop :=
  ∃r,Run v l st0 r/\((∃t,r=.sat t/\b=true/\er=.nilIface)\/(∃p,r=.unsat p/\b=false/\er=.nilIface)\/(r=.limit/\b=false/\er=.iface 55 (.int .i64 4)))
theorem zmO(v:Nat)(l:List (List Int))(a:Option Addr)(cap:Nat)(hn:a=none->cap=0)(w:World)(hI:yr w a l)(hm:l.length<=9223372036854775807)(hc:(yb v l).1=0) :
    zC 79 #[.int .i64 v,.slice a l.length cap] w fun e w'=>∃b nn pa pn pc er,e=.returned (.tuple #[.agg #[.bool b,.int .u64 nn,.slice pa pn pc],er])/\YT v l b er/\zB w w':=by
  refine(zhv v l a cap hn w hI hm).mono ?_;rintro e w' ⟨hs,hb⟩;rcases hs with ⟨h,_⟩|⟨-,r,hr,h⟩
  · exact absurd hc h
  · rw[Int.toNat_natCast] at hr
    rcases h with ⟨t,rfl,rfl⟩|⟨p,pa,pc,rfl,rfl,-⟩|⟨rfl,rfl⟩
    · exact⟨_,_,_,_,_,_,rfl,⟨_,hr,Or.inl ⟨t,rfl,rfl,rfl⟩⟩,hb⟩
    · exact⟨_,_,_,_,_,_,rfl,⟨_,hr,Or.inr (Or.inl ⟨p,rfl,rfl,rfl⟩)⟩,hb⟩
    · exact⟨_,_,_,_,_,_,rfl,⟨_,hr,Or.inr (Or.inr ⟨rfl,rfl,rfl⟩)⟩,hb⟩
theorem zmW:(Tryz.prog.info? 4).map (fun i=>(i.zero,i.size,i.bytes))=some (some (.bool false),1,1):=by kernel_rfl
theorem zhe(B n:Nat)(P:List (Int × List Int))(cv fv:Value)(m:Nat)(ls:List Nat)(la:Option Addr)(lc:Nat)(sa:Option Addr)(sn sc:Nat)(w:World)(hr:RS B w cv fv (P.map Prod.snd) (P.map Prod.fst))(hl:zW w la (zM ls))(hlt:∀x∈ls,x<m)(hm:m<=1000)(hll:ls.length<=100000)(hP:P.length<=10000)(hc:∀x∈P,x.2.length<=1000)(hck:(yb n (qm P (inF m ls))).1=0) :
    zC 40 #[.agg #[.int .i64 n,cv,fv,.slice sa sn sc,.int .i64 m],.slice la ls.length lc] w fun e w'=>∃b er,e=.returned (.tuple #[.bool b,er])/\YT n (qm P (inF m ls)) b er/\zB w w':=by
  obtain⟨ca,cc,rfl,-⟩:∃a c,cv=.slice a P.length c/\True:=by obtain⟨cs,h1,_⟩:=hr.crow;obtain⟨a,c,e,_⟩:=(zx h1).form;exact⟨a,c,by simpa using e,trivial⟩
  obtain⟨fa,fc,rfl,-⟩:∃a c,fv=.slice a P.length c/\True:=by obtain⟨a,c,e,_⟩:=(zx hr.frow).form;exact⟨a,c,by simpa using e,trivial⟩
  obtain⟨i0,hin,hz0,hz1,hz2⟩:=info_parts zmW;have hb1:=below_new w (.cells #[.int .i64 n,.slice ca P.length cc,.slice fa P.length fc,.slice sa sn sc,.int .i64 m] 105);have kb:=Blk.new w 105 #[.int .i64 n,.slice ca P.length cc,.slice fa P.length fc,.slice sa sn sc,.int .i64 m];have HR:=zH (hr.new hb1);have HL:=zH (hl.below hb1);have HLT:=zH hlt;have HC:=zH hc;have HB1:=zH hb1;have HCK:=zH hck;have hmi:(0:Int)<=(m:Int):=by omega
  clear hr hl hb1 hlt hc hck;go_enter Tryz.func40,Tryz.ntmps40;go_upto_region 1 with fail;generalize w.alloc (.cells #[.int .i64 n,.slice ca P.length cc,.slice fa P.length fc,.slice sa sn sc,.int .i64 m] 105)=W0 at *;have c4:_=some (Value.int .i64 m):=kb.cell 4;go_wp2_with (at_make;refine wpList_make_full _ rfl _ _ 165 rfl W0.heap.size 4 i0 (.bool false) 1 Tryz.underlying165 hin hz0 hz1 .i64 .i64 _ _ m rfl rfl ?c1 ?c2 ?c3 ?c4 ?c5 ?_)
  case c1=>rfl
  case c2=>rfl
  case c3=>rw[hz2];omega
  case c4=>unfold maxLen;omega
  case c5=>omega
  intro w5 hown hgrow;have hb5:zB W0 w5:=zF.grown hgrow zN (fun k hk=>by cases hk);have hbo:Qx w5 W0.heap.size (inF m []):=by
    rcases hown.2 with ⟨e,_⟩|⟨g,cap,cur,e,_,hg,_,_,hsz,htk⟩
    · cases e
    · cases e
      exact zlO hg (by omega) (by simpa using htk)
  have HBO:=zH hbo;have HB5:=zH hb5;clear hown hgrow hbo hb5 c4;generalize hg4:W0.heap.size=g at *;go_wp2_with fail;go_loopw [16] (fun iV wr=>∃(i:Nat),i<=ls.length/\iV=.int .i64 i/\Qx wr g (inF m (ls.take i))/\Below g W0 wr) (fun iV _=>ls.length-(intOf iV).toNat)
  case atStart=>exact⟨0,Nat.zero_le _,rfl,by simpa using HBO.out,by first|exact HB5.out|exact HB5.out.mono (Nat.le_of_eq hg4.symm)⟩
  case round =>
    clear HBO HB5;obtain⟨i,hil,rfl,hbo,hbw⟩:=hrel
    by_cases hlt:i<ls.length
    · have hii0:(0:Int)<=(i:Int):=by omega
      have hii1:(i:Int)<(ls.length:Int):=by omega
      obtain⟨ad,rfl,had,hcell⟩:=HL.out.below (hg4▸hbw) i (by simpa[zM] using hlt);have hx:=HLT.out (ls.getD i 0) (by rw[List.getD_eq_getElem?_getD,List.getElem?_eq_getElem hlt];exact List.getElem_mem hlt);have hxe:(zM ls).getD i 0=((ls.getD i 0:Nat):Int):=by simp[zM,List.getD_eq_getElem?_getD,hlt]
      rw[hxe] at hcell;have htk:ls.take (i+1)=ls.take i++[ls.getD i 0]:=by rw[List.take_add_one,List.getD_eq_getElem?_getD,List.getElem?_eq_getElem hlt];rfl
      have HBN:=zH (hbo.tell hx);rw[<-htk] at HBN;obtain⟨cur,g1,g2,g3⟩:=hbo;rw[QB] at g2 g3;have c0:=(g1.cell (ls.getD i 0)).trans (g3 _ hx);have f0:=g1.frozen (ls.getD i 0);have HBW:Hid (Below g W0 (wr.setCell ⟨g,ls.getD i 0,none⟩ (.bool true))):=hbw.setCell (p:=⟨g,ls.getD i 0,none⟩) zN _;clear g1 g2 g3 hxe htk hbw;generalize (inF m (ls.take i)).getD (ls.getD i 0) false=bb at *;generalize ls.getD i 0=x at *;have hx0:(0:Int)<=(x:Int):=by omega
      have hx1:(x:Int)<(m:Int):=by omega
      obtain⟨ab,ao,asp⟩:=ad;go_wp2;go_roundw
      case rel=>exact⟨i+1,hlt,by go_num,HBN.out,HBW.out⟩
      case measure=>simp[intOf];omega
    · obtain rfl:i=ls.length:=by omega
      rw[List.take_length] at hbo;have hb0:zB w wr:=HB1.out.trans (hbw.mono (by rw[<-hg4];exact HB1.out.size));have kb':=kb.below (hg4▸hbw) kb.lt;have HRS:=zH (HR.out.new (hg4▸hbw));have HBA:=zH hbo.bools;have HB0:=zH hb0;have SC:Hid (∀W,zB wr W->W.cell? ⟨w.heap.size,0,none⟩=some (.int .i64 n)/\W.cell? ⟨w.heap.size,1,none⟩=some (.slice ca P.length cc)/\W.cell? ⟨w.heap.size,2,none⟩=some (.slice fa P.length fc)):=fun W h=>⟨(kb'.below h kb'.lt).cell 0,(kb'.below h kb'.lt).cell 1,(kb'.below h kb'.lt).cell 2⟩;have HO:Hid (∀W,zB wr W->zC 80 #[.agg #[.int .i64 n,.slice ca P.length cc,.slice fa P.length fc],.slice (some ⟨g,0,none⟩) m m] W fun e w'=>∃a2 c2,e=.returned (.slice a2 (qm P (inF m ls)).length c2)/\(a2=none->c2=0)/\yr w' a2 (qm P (inF m ls))/\zB W w'):=fun W hW=>by
        have h:=zpg B (n:Int) P (.slice ca P.length cc) (.slice fa P.length fc) (inF m ls) (some ⟨g,0,none⟩) m W (HRS.out.new hW) (HBA.out.below hW zN) hP HC.out;rw[QB] at h;refine h.mono fun e w' ⟨v',h1,h2,h3⟩=>?_;obtain⟨cs,g1,g2⟩:=h2;obtain⟨a1,c1,e1,hn1,-⟩:=(zx g1).form;subst e1;exact⟨a1,c1,h1,hn1,qe.cls (B:=0) (cap:=c1) g2 (ownsRow_base g1 (Nat.zero_le _)),h3⟩
      have hkl:(qm P (inF m ls)).length<=10000:=by have h1:=zdC P (inF m ls) P.length;unfold Zb at h1;rw[List.take_length] at h1;omega
      obtain⟨KK,hKK⟩:∃KK,qm P (inF m ls)=KK:=⟨_,rfl⟩;rw[hKK] at HO hkl HCK;have HKK:=zH hKK;clear hKK;have HS:Hid (∀W a1 c1,(a1=none->c1=0)->yr W a1 KK->zC 79 #[.int .i64 n,.slice a1 KK.length c1] W fun e w'=>∃b nn pa pn pc er,e=.returned (.tuple #[.agg #[.bool b,.int .u64 nn,.slice pa pn pc],er])/\YT n KK b er/\zB W w'):=fun W a1 c1 h0 h1=>zmO n KK a1 c1 h0 W h1 (by omega) HCK.out;have D0:zB wr wr.drew:=zF.drew;have D0a:zB wr (wr.alloc (.cells #[.bool false,.int .u64 0,.slice none 0 0] 167)).drew:=(zF.alloc zN _).drew;have k0a:Blk (wr.alloc (.cells #[.bool false,.int .u64 0,.slice none 0 0] 167)).drew wr.heap.size 167 #[.bool false,.int .u64 0,.slice none 0 0]:=Blk.new wr 167 #[.bool false,.int .u64 0,.slice none 0 0];clear HRS HBA hbo hb0 hbw kb kb' HR HL HLT HC HCK HB1;go_upto_region 7 with fail;go_region_held3 (fun W=>W.cell? ⟨w.heap.size,0,none⟩=some (.int .i64 n)/\W.cell? ⟨w.heap.size,1,none⟩=some (.slice ca P.length cc)/\W.cell? ⟨w.heap.size,2,none⟩=some (.slice fa P.length fc)) (first|exact SC.out _ D0|exact SC.out _ D0a|exact SC.out _ D1|exact SC.out _ D1a|exact SC.out _ D2|exact SC.out _ D2a|exact SC.out _ D2s)
        (first
          |((with_reducible refine(HO.out _ D0).mono ?_);rintro e x1 ⟨a1,c1,rfl,hn1,hcl1,hb1⟩;have D1:zB wr x1:=zT D0 hb1;have D1a:zB wr (x1.alloc (.cells #[.bool false,.int .u64 0,.slice none 0 0] 167)):=zL D1;have hcl1a:yr (x1.alloc (.cells #[.bool false,.int .u64 0,.slice none 0 0] 167)) a1 KK:=hcl1.below (below_new _ _);have ka:=Blk.new x1 167 #[.bool false,.int .u64 0,.slice none 0 0];clear HO D0 D0a k0a hb1)
          |((with_reducible refine(HO.out _ D0a).mono ?_);rintro e x1 ⟨a1,c1,rfl,hn1,hclz,hb1⟩;have D1:zB wr x1:=zT D0a hb1;have kz:=k0a.below hb1 k0a.lt;clear HO D0 D0a k0a hb1)
          |((with_reducible refine(HS.out _ _ _ hn1 hclz).mono ?_);rintro e x2 ⟨b,nn,pa,pn,pc,er,rfl,hcan,hb2⟩;have D2:zB wr x2:=zT D1 hb2;have D2s:zB wr (((x2.setCell ⟨wr.heap.size,0,none⟩ (.bool b)).setCell ⟨wr.heap.size,1,none⟩ (.int .u64 nn)).setCell ⟨wr.heap.size,2,none⟩ (.slice pa pn pc)):=((D2.setCell (p:=⟨wr.heap.size,0,none⟩) zN _).setCell (p:=⟨wr.heap.size,1,none⟩) zN _).setCell (p:=⟨wr.heap.size,2,none⟩) zN _;obtain⟨z0,f0,z1,f1,z2,f2,r0,r1,r2⟩:=YI (kz.below hb2 kz.lt) (.bool b) (.int .u64 nn) (.slice pa pn pc);clear HS D1 hb2 hclz hn1 kz)
          |((with_reducible refine(HS.out _ _ _ hn1 hcl1).mono ?_);rintro e x2 ⟨b,nn,pa,pn,pc,er,rfl,hcan,hb2⟩;have D2:zB wr x2:=zT D1 hb2;have D2a:zB wr (x2.alloc (.cells #[.bool false,.int .u64 0,.slice none 0 0] 167)):=zL D2;have D2s:zB wr (x2.alloc (.cells #[.bool b,.int .u64 nn,.slice pa pn pc] 167)):=zL D2;have r0:=(Blk.new x2 167 #[.bool b,.int .u64 nn,.slice pa pn pc]).cell 0;clear HS D1a D1 hb2 hcl1a hcl1 hn1 ka)
          | ((with_reducible refine (HS.out _ _ _ hn1 hcl1a).mono ?_);rintro e x2 ⟨b,nn,pa,pn,pc,er,rfl,hcan,hb2⟩;have D2:zB wr x2:=zT D1a hb2;have D2s:zB wr (((x2.setCell ⟨x1.heap.size,0,none⟩ (.bool b)).setCell ⟨x1.heap.size,1,none⟩ (.int .u64 nn)).setCell ⟨x1.heap.size,2,none⟩ (.slice pa pn pc)):=((D2.setCell (p:=⟨x1.heap.size,0,none⟩) D1.size _).setCell (p:=⟨x1.heap.size,1,none⟩) D1.size _).setCell (p:=⟨x1.heap.size,2,none⟩) D1.size _;obtain ⟨z0,f0,z1,f1,z2,f2,r0,r1,r2⟩:=YI (ka.below hb2 ka.lt) (.bool b) (.int .u64 nn) (.slice pa pn pc);clear HS D1a D1 hb2 hcl1a hcl1 hn1 ka))
      all_goals
        have HFIN:=zH D2s;have HCN:=zH hcan;clear D2s hcan;go_wp2;go_ret2;exact⟨_,_,rfl,by rw[HKK.out];exact HCN.out,zT HB0.out HFIN.out⟩
end
end Go.Proofs.YtlmmkbnjhilbdaaGreatDoor
