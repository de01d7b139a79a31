/- space.Of. -/
import Derived.Test.YtjmfeefogikdfaaGreatDoorClRefuteW
import Derived.Shelf.SlicesG.Delete
import Derived.Lib.OwnBridge
namespace Go.Proofs.YtjmfeefogikdfaaGreatDoor
set_option maxHeartbeats 4000000
set_option maxRecDepth 100000
section
open Go.RowKit Go.Deep
section
variable {v:Nat} {l:List (List Int)} {s:St}
theorem zlJ{i x:Int}(h:zG s.told (l++s.prf)=(i,x))(hx:x≠0):qL v l s=.inl ⟨s.told++[x],s.decs,s.prf⟩:=by
  unfold qL;rw[h,if_pos hx]
theorem ziv{i:Int}(h:zG s.told (l++s.prf)=(i,0))(hi:0<=i)(hd:s.decs=[]):qL v l s=.inr (.unsat (s.prf++[zA s.decs])):=by
  unfold qL;rw[h,if_neg (by simp),if_pos hi,hd];rfl
theorem zmi{i:Int}{ds:List (Int × List Int)}{d:Int × List Int}(h:zG s.told (l++s.prf)=(i,0))(hi:0<=i)(hd:s.decs=ds++[d])(hp:s.prf.length+1=2000):qL v l s=.inr .limit:=by
  unfold qL;rw[h,if_neg (by simp),if_pos hi,hd];simp[hp]
theorem zlt{i:Int}{ds:List (Int × List Int)}{d:Int × List Int}(h:zG s.told (l++s.prf)=(i,0))(hi:0<=i)(hd:s.decs=ds++[d])(hp:s.prf.length+1≠2000):qL v l s=.inl ⟨d.2,ds,s.prf++[zA s.decs]⟩:=by
  unfold qL;rw[h,if_neg (by simp),if_pos hi,hd];simp[hp]
theorem zna{i:Int}(h:zG s.told (l++s.prf)=(i,0))(hi:i<0)(hl:yW v s.told<0):qL v l s=.inr (.sat s.told):=by
  unfold qL;rw[h,if_neg (by simp),if_neg (by simp;omega),if_pos hl]
theorem zjq{i:Int}(h:zG s.told (l++s.prf)=(i,0))(hi:i<0)(hl:¬yW v s.told<0):qL v l s=.inl ⟨s.told++[yW v s.told+1],s.decs++[(yW v s.told+1,s.told)],s.prf⟩:=by
  unfold qL;rw[h,if_neg (by simp),if_neg (by simp;omega),if_neg hl]
end
def zfM(v:Int)(l:List (List Int))(e:Ending)(w':World):Prop :=
  ((qU v l).1≠0/\∃er,e=.returned (.tuple #[.agg #[.bool false,.int .u64 0,.slice none 0 0],er])/\ZZ w' er (qU v l).1 (qU v l).2) \/
  ((qU v l).1=0/\∃ r,Run v.toNat l st0 r /\
    ((∃ t,r=.sat t/\e=.returned (.tuple #[.agg #[.bool true,.int .u64 ((yK t 24:Nat):Int),.slice none 0 0],.nilIface])) \/
     (∃p a c,r=.unsat p/\e=.returned (.tuple #[.agg #[.bool false,.int .u64 0,.slice a p.length c],.nilIface])/\qY w' a p) \/
     (r=.limit/\e=.returned (.tuple #[.agg #[.bool false,.int .u64 0,.slice none 0 0],.iface 76 (.int .i64 4)]))))
structure zl8(W:World)(b:Nat)(x0 x1 x2 y0 y1 y2:Value):Prop where
  a0:W.cell? ⟨b,0,none⟩=some x0
  f0:W.frozen? ⟨b,0,none⟩=false
  a1:(W.setCell ⟨b,0,none⟩ y0).cell? ⟨b,1,none⟩=some x1
  f1:(W.setCell ⟨b,0,none⟩ y0).frozen? ⟨b,1,none⟩=false
  a2:((W.setCell ⟨b,0,none⟩ y0).setCell ⟨b,1,none⟩ y1).cell? ⟨b,2,none⟩=some x2
  f2:((W.setCell ⟨b,0,none⟩ y0).setCell ⟨b,1,none⟩ y1).frozen? ⟨b,2,none⟩=false
  r0:(((W.setCell ⟨b,0,none⟩ y0).setCell ⟨b,1,none⟩ y1).setCell ⟨b,2,none⟩ y2).cell? ⟨b,0,none⟩=some y0
  r1:(((W.setCell ⟨b,0,none⟩ y0).setCell ⟨b,1,none⟩ y1).setCell ⟨b,2,none⟩ y2).cell? ⟨b,1,none⟩=some y1
  r2:(((W.setCell ⟨b,0,none⟩ y0).setCell ⟨b,1,none⟩ y1).setCell ⟨b,2,none⟩ y2).cell? ⟨b,2,none⟩=some y2
theorem Qc{W:World}{b:Nat}{t:TypeId}{x0 x1 x2:Value}(h:Blk W b t #[x0,x1,x2])(y0 y1 y2:Value):zl8 W b x0 x1 x2 y0 y1 y2:=by
  have h1:=h.set (i:=0) (v:=y0);have h2:=h1.set (i:=1) (v:=y1);have h3:=h2.set (i:=2) (v:=y2);exact⟨h.cell 0,h.frozen 0,h1.cell 1,h1.frozen 1,h2.cell 2,h2.frozen 2,h3.cell 0,h3.cell 1,h3.cell 2⟩
theorem ZZ.set3{W:World}{b:Nat}{e:Value}{m pl:Int}(h:ZZ W e m pl)(hb:W.cell? ⟨b,0,none⟩=some (.bool false))(y0 y1 y2:Value):ZZ (((W.setCell ⟨b,0,none⟩ y0).setCell ⟨b,1,none⟩ y1).setCell ⟨b,2,none⟩ y2) e m pl:=by
  rcases h with h|h|⟨h0,k,h1,h2,h3,h4⟩
  · exact Or.inl h
  · exact Or.inr (Or.inl h)
  · have hk:k≠b:=fun e=>by rw[e,hb] at h3;cases h3
    refine Or.inr (Or.inr ⟨h0,k,by simpa[World.setCell] using h1,h2,?_,?_⟩)
    · rw[World.cell?_setCell_other _ _ _ _ (fun e=>hk (congrArg Addr.block e).symm),World.cell?_setCell_other _ _ _ _ (fun e=>hk (congrArg Addr.block e).symm),World.cell?_setCell_other _ _ _ _ (fun e=>hk (congrArg Addr.block e).symm)];exact h3
    · rw[World.cell?_setCell_other _ _ _ _ (fun e=>hk (congrArg Addr.block e).symm),World.cell?_setCell_other _ _ _ _ (fun e=>hk (congrArg Addr.block e).symm),World.cell?_setCell_other _ _ _ _ (fun e=>hk (congrArg Addr.block e).symm)];exact h4
theorem znp{B b:Nat}{W:World}{t:TypeId}{cs:Array Value}{ps:List Value}{p:List (List Int)}{a:Option Addr}{c:Nat}(hb:Blk W b t cs)(ht:t≠3)(ht2:t≠43)(hk:zx 0 W ps p)(hr:W.ownsRow B 43 1 (.slice a p.length c) p.length ps)(y0 y1 y2:Value) :
    qY (((W.setCell ⟨b,0,none⟩ y0).setCell ⟨b,1,none⟩ y1).setCell ⟨b,2,none⟩ y2) a p:=by
  have h1:=hb.set (i:=0) (v:=y0);have h2:=h1.set (i:=1) (v:=y1);have k1:=hk.kp (Kp.set (B:=0) (i:=0) (v:=y0) (Nat.zero_le _) hb ht);have k2:=k1.kp (Kp.set (B:=0) (i:=1) (v:=y1) (Nat.zero_le _) h1 ht);have k3:=k2.kp (Kp.set (B:=0) (i:=2) (v:=y2) (Nat.zero_le _) h2 ht);have r1:=ownsRow_setCell_other hr (a:=⟨b,0,none⟩) (qH hr hb ht2) y0;have r2:=ownsRow_setCell_other r1 (a:=⟨b,1,none⟩) (qH r1 h1 ht2) y1;have r3:=ownsRow_setCell_other r2 (a:=⟨b,2,none⟩) (qH r2 h2 ht2) y2;exact zx.cls ⟨k3.1,fun i hi=>by
    obtain⟨a',cap,q1,q2,q3,q4⟩:=k3.2 i hi;exact ⟨a',cap,q1,q2,q3,q4.more⟩⟩ r3
structure SS(w wr:World)(rb sb:Nat)(v:Nat)(l:List (List Int))(s:St)(r:Res)(cV dV pV:Value):Prop where
  at':SAt (rb+1) wr sb l s cV dV pV
  good:zr v s
  run:Run v l s r
  below:Below rb w wr
  blk:Blk wr rb 40 #[.bool false,.int .u64 0,.slice none 0 0]
theorem znn:(Tryz.prog.info? 72).map (·.size)=some 27:=by kernel_rfl
theorem znh(va:Option Addr)(n vc:Nat):(#[.slice va n vc,.int .i8 0,.int .i8 0,.int .i8 0,.int .i8 0,.int .i8 0,.int .i8 0,.int .i8 0,.int .i8 0,.int .i8 0,.int .i8 0,.int .i8 0,.int .i8 0,.int .i8 0,.int .i8 0,.int .i8 0,.int .i8 0,.int .i8 0,.int .i8 0,.int .i8 0,.int .i8 0,.int .i8 0,.int .i8 0,.int .i8 0,.int .i8 0,.slice none 0 0,.slice none 0 0]:Array Value).all (·.oneCell')=true :=
  all_oneCell_toArray (cs:=[.slice va n vc,.int .i8 0,.int .i8 0,.int .i8 0,.int .i8 0,.int .i8 0,.int .i8 0,.int .i8 0,.int .i8 0,.int .i8 0,.int .i8 0,.int .i8 0,.int .i8 0,.int .i8 0,.int .i8 0,.int .i8 0,.int .i8 0,.int .i8 0,.int .i8 0,.int .i8 0,.int .i8 0,.int .i8 0,.int .i8 0,.int .i8 0,.int .i8 0,.slice none 0 0,.slice none 0 0]) (fun v hv=>by
    rcases List.mem_cons.1 hv with rfl|hv
    · rfl
    · have:∀u∈([.int .i8 0,.int .i8 0,.int .i8 0,.int .i8 0,.int .i8 0,.int .i8 0,.int .i8 0,.int .i8 0,.int .i8 0,.int .i8 0,.int .i8 0,.int .i8 0,.int .i8 0,.int .i8 0,.int .i8 0,.int .i8 0,.int .i8 0,.int .i8 0,.int .i8 0,.int .i8 0,.int .i8 0,.int .i8 0,.int .i8 0,.int .i8 0,.slice none 0 0,.slice none 0 0]:List Value),u.oneCell'=true:=by decide
      exact this v hv)
theorem zfm{w w1 w2 WS:World}{n:Nat}{l:List (List Int)}{r:Res}{va:Option Addr}{vc:Nat}{cs:List Value}(hbn:zB w2 WS)(hbs:Blk WS w2.heap.size 72 #[.slice none 0 0,.int .i8 0,.int .i8 0,.int .i8 0,.int .i8 0,.int .i8 0,.int .i8 0,.int .i8 0,.int .i8 0,.int .i8 0,.int .i8 0,.int .i8 0,.int .i8 0,.int .i8 0,.int .i8 0,.int .i8 0,.int .i8 0,.int .i8 0,.int .i8 0,.int .i8 0,.int .i8 0,.int .i8 0,.int .i8 0,.int .i8 0,.int .i8 0,.slice none 0 0,.slice none 0 0])(hrow:w2.ownsRow w1.heap.size 43 1 (.slice va l.length vc) l.length cs)(hck:zx (w.heap.size+1) w2 cs l)(hs1:w.heap.size+1<=w1.heap.size)(hs2:w1.heap.size<=w2.heap.size)(hB1:zB w w1)(hBL:Blk w1 w.heap.size 40 #[.bool false,.int .u64 0,.slice none 0 0])(hb2:zB w1 w2)(hrun:Run n l st0 r) :
    SS w (WS.setCells w2.heap.size 0 [.slice va l.length vc,.int .i8 0,.int .i8 0,.int .i8 0,.int .i8 0,.int .i8 0,.int .i8 0,.int .i8 0,.int .i8 0,.int .i8 0,.int .i8 0,.int .i8 0,.int .i8 0,.int .i8 0,.int .i8 0,.int .i8 0,.int .i8 0,.int .i8 0,.int .i8 0,.int .i8 0,.int .i8 0,.int .i8 0,.int .i8 0,.int .i8 0,.int .i8 0,.slice none 0 0,.slice none 0 0]) w.heap.size w2.heap.size n l st0 r (.slice va l.length vc) (.slice none 0 0) (.slice none 0 0)/\WS.there w2.heap.size 0 27:=by
  have hrowS:=zZ (ownsRow_base hrow hs1) hbn;have hne:=qH hrowS hbs (by decide);have hset:=zaN (cs:=[.slice none 0 0,.int .i8 0,.int .i8 0,.int .i8 0,.int .i8 0,.int .i8 0,.int .i8 0,.int .i8 0,.int .i8 0,.int .i8 0,.int .i8 0,.int .i8 0,.int .i8 0,.int .i8 0,.int .i8 0,.int .i8 0,.int .i8 0,.int .i8 0,.int .i8 0,.int .i8 0,.int .i8 0,.int .i8 0,.int .i8 0,.int .i8 0,.int .i8 0,.slice none 0 0,.slice none 0 0]) hbs [.slice va l.length vc,.int .i8 0,.int .i8 0,.int .i8 0,.int .i8 0,.int .i8 0,.int .i8 0,.int .i8 0,.int .i8 0,.int .i8 0,.int .i8 0,.int .i8 0,.int .i8 0,.int .i8 0,.int .i8 0,.int .i8 0,.int .i8 0,.int .i8 0,.int .i8 0,.int .i8 0,.int .i8 0,.int .i8 0,.int .i8 0,.int .i8 0,.int .i8 0,.slice none 0 0,.slice none 0 0] 0 (by simp);have hblA:=(hBL.below hb2 hBL.lt).below hbn (hBL.below hb2 hBL.lt).lt;have hkp:Kp (w.heap.size+1) WS (WS.setCells w2.heap.size 0 [.slice va l.length vc,.int .i8 0,.int .i8 0,.int .i8 0,.int .i8 0,.int .i8 0,.int .i8 0,.int .i8 0,.int .i8 0,.int .i8 0,.int .i8 0,.int .i8 0,.int .i8 0,.int .i8 0,.int .i8 0,.int .i8 0,.int .i8 0,.int .i8 0,.int .i8 0,.int .i8 0,.int .i8 0,.int .i8 0,.int .i8 0,.int .i8 0,.int .i8 0,.slice none 0 0,.slice none 0 0]):=KX (by omega) (by decide) _ _ _ _ hbs;refine⟨⟨⟨hset,by omega,⟨cs,?_,?_⟩,⟨[],World.ownsRow_nil _ _ _ _,zx.nil⟩,World.ownsRow_nil _ _ _ _,?_⟩,KM n,hrun,Kx (by omega) _ _ _ ((zT hB1 hb2).trans (hbn.mono (by omega))),?_⟩,?_⟩
  · have:=Y1 hne [.slice va l.length vc,.int .i8 0,.int .i8 0,.int .i8 0,.int .i8 0,.int .i8 0,.int .i8 0,.int .i8 0,.int .i8 0,.int .i8 0,.int .i8 0,.int .i8 0,.int .i8 0,.int .i8 0,.int .i8 0,.int .i8 0,.int .i8 0,.int .i8 0,.int .i8 0,.int .i8 0,.int .i8 0,.int .i8 0,.int .i8 0,.int .i8 0,.int .i8 0,.slice none 0 0,.slice none 0 0] 0 _ hrowS
    simpa[st0] using this
  · have:=(hck.kp (Kp.new (B:=w.heap.size+1) hbn)).kp hkp
    simpa[st0] using this
  · cases va with
    |none=>exact Or.inl rfl
    |some ad=>exact Or.inr (by simp[Value.ownBlock])
  · have:=hkp.block w.heap.size hblA.lt (Or.inl (by omega))
    exact this.trans hblA
  · intro j hj
    refine⟨?_,hbs.frozen _⟩;rw[hbs.cell,Nat.zero_add,Array.getElem?_eq_getElem (by simpa using hj)];rfl
theorem zl5(v:Int)(l:List (List Int))(a:Option Addr)(cap:Nat)(hn:a=none->cap=0)(w:World)(hI:qY w a l)(hm:l.length<=9223372036854775807) :
    zC 10 #[.int .i64 v,.slice a l.length cap] w fun e w'=>zfM v l e w'/\zB w w':=by
  have hbA:=below_new w (.cells #[.bool false,.int .u64 0,.slice none 0 0] 40);have hIA:=hI.below hbA;have hblkA:=Blk.new w 40 #[.bool false,.int .u64 0,.slice none 0 0];have HCH:=zH (zfd v l a cap _ hIA hm);have hszA:(w.alloc (.cells #[.bool false,.int .u64 0,.slice none 0 0] 40)).heap.size=w.heap.size+1:=by simp
  have HBA:=zH hbA;have HIA:=zH hIA;have HBLK:=zH hblkA;have HSZ:=zH hszA;clear hI hbA hIA hblkA hszA;go_enter Tryz.func10,Tryz.ntmps10;go_wp2_with fail;generalize w.alloc (.cells #[.bool false,.int .u64 0,.slice none 0 0] 40)=WA at *;refine HCH.out.mono ?_;rintro e w1 ⟨er,rfl,her,hb1⟩;replace hb1:=hb1.mono (Nat.le_of_eq HSZ.out.symm);have hbl1:=HBLK.out.below hb1 (by omega);have hbw1:zB w w1:=HBA.out.trans (hb1.mono (by omega));clear HCH
  by_cases hz:(qU v l).1=0
  · obtain⟨hv0,hv1,hl200,hls,hck,hcl⟩:=zlU hz
    obtain rfl:er=.nilIface:=by
      rcases her with h|h|h
      · exact h.2.2
      · exact absurd hz h.1
      · exact absurd hz h.1
    obtain⟨n,rfl⟩:∃n:Nat,v=(n:Int):=⟨v.toNat,by omega⟩;obtain⟨r,hrun⟩:=zlH (v:=n) (l:=l) (by omega) hls (mu st0) st0 zN (KM n);have HCL:=zH (JJ WA l a cap hn (by omega) w1 HIA.out (hb1.mono (Nat.le_of_eq HSZ.out)));have HZ:=zH hz;have HLS:=zH hls;have HRUN:=zH hrun;have HB1:=zH hbw1;have HBL:=zH hbl1;have hs1:=hb1.size;clear her hz hls hck hcl hb1 hbl1 hbw1 hrun HBA HIA HBLK;go_wp2_with fail;refine HCL.out.mono ?_;rintro e w2 ⟨va,vc,rfl,⟨cs,hrow,hck⟩,hb2⟩;have hs2:=hb2.size;rw[HSZ.out] at hs1 hck;have hbn:=below_new w2 (.cells #[.slice none 0 0,.int .i8 0,.int .i8 0,.int .i8 0,.int .i8 0,.int .i8 0,.int .i8 0,.int .i8 0,.int .i8 0,.int .i8 0,.int .i8 0,.int .i8 0,.int .i8 0,.int .i8 0,.int .i8 0,.int .i8 0,.int .i8 0,.int .i8 0,.int .i8 0,.int .i8 0,.int .i8 0,.int .i8 0,.int .i8 0,.int .i8 0,.int .i8 0,.slice none 0 0,.slice none 0 0] 72);have hstart:=zfm (w:=w) (n:=n) (l:=l) (r:=r) hbn (Blk.new _ _ _) hrow hck hs1 hs2 HB1.out HBL.out hb2 HRUN.out;have HST:=zH hstart.1;have HTH:=zH hstart.2;have HON:=zH (znh va l.length vc);clear hrow hck hb2 hstart HCL HB1 HBL hbn;go_wp2_with (first
      |(refine wpList_store_mid (by rfl) 72 _ _ (by rfl) w2.heap.size 0 #[.slice va l.length vc,.int .i8 0,.int .i8 0,.int .i8 0,.int .i8 0,.int .i8 0,.int .i8 0,.int .i8 0,.int .i8 0,.int .i8 0,.int .i8 0,.int .i8 0,.int .i8 0,.int .i8 0,.int .i8 0,.int .i8 0,.int .i8 0,.int .i8 0,.int .i8 0,.int .i8 0,.int .i8 0,.int .i8 0,.int .i8 0,.int .i8 0,.int .i8 0,.slice none 0 0,.slice none 0 0] (by rfl) (by rfl) HTH.out znn HON.out ?_)
      | fail)
    generalize (w2.alloc (.cells #[.slice none 0 0,.int .i8 0,.int .i8 0,.int .i8 0,.int .i8 0,.int .i8 0,.int .i8 0,.int .i8 0,.int .i8 0,.int .i8 0,.int .i8 0,.int .i8 0,.int .i8 0,.int .i8 0,.int .i8 0,.int .i8 0,.int .i8 0,.int .i8 0,.int .i8 0,.int .i8 0,.int .i8 0,.int .i8 0,.int .i8 0,.int .i8 0,.int .i8 0,.slice none 0 0,.slice none 0 0] 72)).setCells w2.heap.size 0 [.slice va l.length vc,.int .i8 0,.int .i8 0,.int .i8 0,.int .i8 0,.int .i8 0,.int .i8 0,.int .i8 0,.int .i8 0,.int .i8 0,.int .i8 0,.int .i8 0,.int .i8 0,.int .i8 0,.int .i8 0,.int .i8 0,.int .i8 0,.int .i8 0,.int .i8 0,.int .i8 0,.int .i8 0,.int .i8 0,.int .i8 0,.int .i8 0,.int .i8 0,.slice none 0 0,.slice none 0 0]=W3 at *;simp only[Act.put];go_loopg [8] (mu st0) (fun k _ wr=>∃(s:St) (cV dV pV:Value),SS w wr w.heap.size w2.heap.size n l s r cV dV pV/\mu s<=k)
    case atStart=>exact⟨st0,_,_,_,HST.out,Nat.le_refl _⟩
    case round =>
      obtain⟨s,cV,dV,pV,hss,hmu⟩:=hrel;clear HST;obtain⟨cs,hcs,hck⟩:=hss.at'.crow;obtain⟨ca,cc,rfl,-,-⟩:=row_form hcs;have hlp:zU n (l++s.prf):=YK HLS.out hss.good.litsP;have h24:zU 24 (l++s.prf):=fun c hc x hx=>Zl hv1 (hlp c hc x hx);have c0:=hss.at'.c0;have hpl:=hss.good.pl;have hll:(l++s.prf).length<=2200:=by rw[List.length_append];omega
      have HN:=zgm ⟨w2.heap.size,1,none⟩ s.told hss.good.cons (l++s.prf) h24 ca cc wr hss.at'.vals (hck.cls hcs) (by omega);have hnx:=Xt (l:=l++s.prf) hss.good.cons;have HSS:=zH hss;have HLP:=zH hlp;have hsg:Hid (∀s',qL n l s=.inl s'->zr n s'/\mu s'<mu s):=fun s' h=>YM (by omega) HLS.out hss.good h;generalize hr:zG s.told (l++s.prf)=nx at *;obtain⟨i,x⟩:=nx;have HR:=zH hr;obtain⟨L0,hL0⟩:∃L0,L0=(l++s.prf).length:=⟨_,rfl⟩;rw[<-hL0] at HN c0 hll;simp only at HN;have HNN:=zH HN;have hi01:(i=-1/\x=0)\/0<=i:=by
        cases hnx with
        |none=>exact Or.inl ⟨rfl,rfl⟩
        |bad=>exact Or.inr (by omega)
        |one=>exact Or.inr (by omega)
      clear hcs hck hlp h24 hnx hr HN hss hL0
      by_cases hx0:x=0
      · subst hx0
        by_cases hi:0<=i
        · -- a clause can't hold
          have hdl:s.decs.length<=24:=by have:=HSS.out.good.few;omega
          clear hi01;go_wp2_with fail;refine HNN.out.mono ?_;rintro e w3 ⟨rfl,hb3⟩;have ha3:=HSS.out.at'.new hb3;have hbl3:=HSS.out.blk.below hb3 HSS.out.blk.lt;have hbw3:=zT HSS.out.below hb3;have hB3:w.heap.size+1<=w3.heap.size:=by have:=hbl3.lt;omega
          have HRF:=zH (zg6 (w.heap.size + 1) w2.heap.size l s _ _ _ hdl (fun d hd=>by
            obtain⟨k,hk⟩:=List.getElem?_of_mem hd;have:=(HSS.out.good.ds k d hk).2.2.2;rw [qx] at this;omega) hpl hl200 w3 hB3 ha3)
          have HBL3:=zH hbl3;have HBW3:=zH hbw3;clear hb3 ha3 hbl3 hbw3 HNN;go_wp2_with fail;refine HRF.out.mono ?_;rintro e w4 ⟨rfl,⟨cV',pV',ha4⟩,hb4⟩;have hbl4:=HBL3.out.below hb4 (by omega);have hbw4:zB w w4:=HBW3.out.trans (hb4.mono (by omega));obtain⟨ps,hps,hpk⟩:=ha4.prow;obtain⟨pa,pc,rfl,-,-⟩:=row_form hps;have d25:=ha4.c25;have d26:=ha4.c26;have hprl:(s.prf++[zA s.decs]).length=s.prf.length+1:=by simp
          have HPC:Hid (∀(y0 y1 y2:Value),qY (((w4.setCell ⟨w.heap.size,0,none⟩ y0).setCell ⟨w.heap.size,1,none⟩ y1).setCell ⟨w.heap.size,2,none⟩ y2) pa (s.prf++[zA s.decs])):=fun y0 y1 y2=>znp hbl4 (by decide) (by decide) hpk hps y0 y1 y2;simp only[hprl] at d26;obtain⟨da,dc,rfl⟩:∃a c,dV=.slice a s.decs.length c:=by
            rcases ha4.drow.2 with ⟨e,e0⟩|⟨g,cap,cur,e,-⟩
            · exact⟨none,0,by rw[e];exact congrArg (fun k=>Value.slice none k 0) e0.symm⟩
            · exact⟨_,_,e⟩
          have HA4:=zH ha4;have HB4:=zH hb4;have HBL4:=zH hbl4;have HBW4:=zH hbw4;have HPRL:=zH hprl;clear ha4 hb4 hbl4 hbw4 hps hpk HRF HBL3 HBW3 hprl
          by_cases hd0:s.decs=[]
          · have HRES:=zH (HSS.out.run.at_done (ziv HR.out hi hd0))
            have hdz:s.decs.length=0:=by rw[hd0];rfl
            rw[hdz] at d25;have P:=Qc HBL4.out (.bool false) (.int .u64 0) (.slice pa (s.prf.length+1) pc);have q0:=P.a0;have f0:=P.f0;have q1:=P.a1;have f1:=P.f1;have q2:=P.a2;have f2:=P.f2;have HP:=zH P;have HPB:Hid (zB w (((w4.setCell ⟨w.heap.size,0,none⟩ (.bool false)).setCell ⟨w.heap.size,1,none⟩ (.int .u64 0)).setCell ⟨w.heap.size,2,none⟩ (.slice pa (s.prf.length+1) pc))):=((HBW4.out.setCell zN _).setCell zN _).setCell zN _;have HPC2:Hid (qY (((w4.setCell ⟨w.heap.size,0,none⟩ (.bool false)).setCell ⟨w.heap.size,1,none⟩ (.int .u64 0)).setCell ⟨w.heap.size,2,none⟩ (.slice pa (s.prf.length+1) pc)) pa (s.prf++[zA s.decs])):=HPC.out _ _ _;clear P hdz hd0 HPC;go_wp2;refine bodyPost_ret (v:=.tuple #[.agg #[.bool false,.int .u64 0,.slice pa (s.prf.length+1) pc],.nilIface]) (by simp[results,Tryz.results10,go_sem,HP.out.r0,HP.out.r1,HP.out.r2]) rfl ?_;refine⟨Or.inr ⟨HZ.out,r,HRUN.out,Or.inr (Or.inl ⟨_,pa,pc,HRES.out,?_,HPC2.out⟩)⟩,HPB.out⟩;rw[HPRL.out]
          · obtain⟨ds,⟨y,t⟩,hds⟩:∃ds d,s.decs=ds++[d]:=⟨_,_,(List.dropLast_concat_getLast hd0).symm⟩
            have hpos:¬s.decs.length=0:=fun h=>hd0 (List.length_eq_zero_iff.1 h);have hdn:((s.decs.length:Int)==0)=false:=by simp;omega
            by_cases hlim:s.prf.length+1=2000
            · have HRES:=zH (HSS.out.run.at_done (zmi HR.out hi hds hlim))
              have P:=Qc HBL4.out (.bool false) (.int .u64 0) (.slice none 0 0);have q0:=P.a0;have f0:=P.f0;have q1:=P.a1;have f1:=P.f1;have q2:=P.a2;have f2:=P.f2;have HP:=zH P;have HPB:Hid (zB w (((w4.setCell ⟨w.heap.size,0,none⟩ (.bool false)).setCell ⟨w.heap.size,1,none⟩ (.int .u64 0)).setCell ⟨w.heap.size,2,none⟩ (.slice none 0 0))):=((HBW4.out.setCell zN _).setCell zN _).setCell zN _;clear P hd0 hds HPC;generalize s.decs.length=dl at *;rw[hlim] at d26;go_wp2;refine bodyPost_ret (v:=.tuple #[.agg #[.bool false,.int .u64 0,.slice none 0 0],.iface 76 (.int .i64 4)]) (by simp[results,Tryz.results10,go_sem,HP.out.r0,HP.out.r1,HP.out.r2]) rfl ?_;exact⟨Or.inr ⟨HZ.out,r,HRUN.out,Or.inr (Or.inr ⟨HRES.out,rfl⟩)⟩,HPB.out⟩
            · have hst:=zlt (v:=n) HR.out hi hds hlim
              have HGO:=zH (HSS.out.run.at_go hst);have HGD:=zH (hsg.out _ hst).1;have hmu2:=(hsg.out _ hst).2;have HTB:=zH (zjg (w.heap.size+1) w2.heap.size l ⟨s.told,s.decs,s.prf++[zA s.decs]⟩ _ _ _ ds y t hds hdl w4 HA4.out);have hl2:(((s.prf.length:Int)+1)==2000)=false:=by simp;omega
              have hl3:(((s.prf.length+1:Nat):Int)==2000)=false:=by simp;omega
              clear hst hd0 hds HPC;generalize s.decs.length=dl at *;generalize s.prf.length=pl at *;go_wp2_with fail;refine HTB.out.mono ?_;rintro e w5 ⟨rfl,⟨dV',ha5⟩,hb5⟩;have HS5:Hid (SS w w5 w.heap.size w2.heap.size n l ⟨t,ds,s.prf++[zA s.decs]⟩ r cV' dV' _):=⟨ha5,HGD.out,HGO.out,HBW4.out.trans (hb5.mono (by omega)),HBL4.out.below hb5 (by omega)⟩;clear ha5 hb5 HTB;go_wp2;go_roundg (mu ⟨t,ds,s.prf++[zA s.decs]⟩)
              case rel=>exact⟨_,_,_,_,HS5.out,Nat.le_refl _⟩
              case measure=>exact Nat.lt_of_lt_of_le hmu2 hmu
        · -- nothing follows
          have hi1:i=-1:=by rcases hi01 with h|h<;>omega
          subst hi1;clear hi01;have hn24:n<=24:=by omega
          have hle:=QB (v:=n) (told:=s.told);have hdl:s.decs.length<=24:=by have:=HSS.out.good.few;omega
          go_wp2_with fail;refine HNN.out.mono ?_;rintro e w3 ⟨rfl,hb3⟩;have ha3:=HSS.out.at'.new hb3;have hbl3:=HSS.out.blk.below hb3 HSS.out.blk.lt;have hbw3:=zT HSS.out.below hb3;have HIX:=zH (znm ⟨w2.heap.size,1,none⟩ s.told n hn24 24 w3 ha3.vals);have HA3:=zH ha3;have HBL3:=zH hbl3;have HBW3:=zH hbw3;clear hb3 ha3 hbl3 hbw3 HNN;rcases hle with ⟨hneg,-⟩|⟨k,hk,hkn,htz,-⟩
          · have HRES:=zH (HSS.out.run.at_done (zna HR.out (by omega) (by rw[hneg];omega)))
            rw[hneg] at HIX;have HNU:=zH (zmw ⟨w2.heap.size,1,none⟩ s.told w3 HA3.out.vals);clear hneg;obtain⟨N,hN⟩:∃N,N=yK s.told 24:=⟨_,rfl⟩;rw[<-hN] at HNU;have HNE:=zH hN;clear hN;go_wp2_with fail;refine HIX.out.mono ?_;rintro e w4 ⟨rfl,rfl⟩;clear HIX;go_wp2_with fail;refine HNU.out.mono ?_;rintro e w4 ⟨rfl,hb4⟩;have P:=Qc (HBL3.out.below hb4 HBL3.out.lt) (.bool true) (.int .u64 N) (.slice none 0 0);have q0:=P.a0;have f0:=P.f0;have q1:=P.a1;have f1:=P.f1;have q2:=P.a2;have f2:=P.f2;have HP:=zH P;have HPB:Hid (zB w (((w4.setCell ⟨w.heap.size,0,none⟩ (.bool true)).setCell ⟨w.heap.size,1,none⟩ (.int .u64 N)).setCell ⟨w.heap.size,2,none⟩ (.slice none 0 0))):=(((zT HBW3.out hb4).setCell zN _).setCell zN _).setCell zN _;clear P hb4 HNU;go_wp2;refine bodyPost_ret (v:=.tuple #[.agg #[.bool true,.int .u64 N,.slice none 0 0],.nilIface]) (by simp[results,Tryz.results10,go_sem,HP.out.r0,HP.out.r1,HP.out.r2]) rfl ?_;exact⟨Or.inr ⟨HZ.out,r,HRUN.out,Or.inl ⟨s.told,HRES.out,by rw[HNE.out]⟩⟩,HPB.out⟩
          · have hst:=zjq (v:=n) HR.out (by omega) (by rw[hk];omega)
            rw[hk] at hst HIX;have HGO:=zH (HSS.out.run.at_go hst);have HGD:=zH (hsg.out _ hst).1;have hmu2:=(hsg.out _ hst).2;obtain⟨z0,z1⟩:=Qw.1 htz;have hlk:zJ 24 ((k:Int)+1)=true:=by rw[qx];omega
            have HDC:=zH (zia (w.heap.size+1) w2.heap.size l s _ _ _ ((k:Int)+1) hlk z1 hdl w3 HA3.out);clear hst hk htz z0 z1 hlk;go_wp2_with fail;refine HIX.out.mono ?_;rintro e w4 ⟨rfl,rfl⟩;clear HIX;go_wp2_with fail;refine HDC.out.mono ?_;rintro e w5 ⟨rfl,⟨dV',ha5⟩,hb5⟩;have HS5:Hid (SS w w5 w.heap.size w2.heap.size n l ⟨s.told++[(k:Int)+1],s.decs++[((k:Int)+1,s.told)],s.prf⟩ r _ dV' _):=⟨ha5,HGD.out,HGO.out,HBW3.out.trans (hb5.mono (by omega)),HBL3.out.below hb5 (by omega)⟩;clear ha5 hb5 HDC;go_wp2;go_roundg (mu ⟨s.told++[(k:Int)+1],s.decs++[((k:Int)+1,s.told)],s.prf⟩)
            case rel=>exact⟨_,_,_,_,HS5.out,Nat.le_refl _⟩
            case measure=>exact Nat.lt_of_lt_of_le hmu2 hmu
      · -- a literal is told
        have hst:=zlJ (v:=n) HR.out hx0;have HGO:=zH (HSS.out.run.at_go hst);have HGD:=zH (hsg.out _ hst).1;have hmu2:=(hsg.out _ hst).2;obtain⟨p1,p2,p3,-,-⟩:=XR HLP.out HSS.out.good.cons HSS.out.good.lits HR.out hx0;have hl24:=Zl hv1 p1;have hxn:(x != 0)=true:=by simpa using hx0
        have HPP:Hid (-x∉s.told):=p3;clear hst p1 p2 p3 hi01 hx0;go_wp2_with fail;refine HNN.out.mono ?_;rintro e w3 ⟨rfl,hb3⟩;have ha3:=HSS.out.at'.new hb3;have HT:=zH (zad ⟨w2.heap.size,1,none⟩ s.told x hl24 w3 ha3.vals);have hbl3:=HSS.out.blk.below hb3 HSS.out.blk.lt;have hbw3:=zT HSS.out.below hb3;have hsb:=HSS.out.at'.Bsb;have HS5:Hid (SS w (w3.setCell ((⟨w2.heap.size,1,none⟩:Addr).add (qZ x)) (.int .i8 (xp x))) w.heap.size w2.heap.size n l ⟨s.told++[x],s.decs,s.prf⟩ r _ _ _):=⟨ha3.tell hl24 HPP.out,HGD.out,HGO.out,hbw3.setCell (by rw[xP];show w.heap.size<=w2.heap.size;omega) _,by rw[add_plain];exact hbl3.other (by omega)⟩;clear hb3 ha3 hbl3 hbw3 HNN;go_wp2_with fail;refine HT.out.mono ?_;rintro e w4 ⟨rfl,hw4⟩;rw[<-hw4] at HS5;clear hw4 HT;go_wp2;go_roundg (mu ⟨s.told++[x],s.decs,s.prf⟩)
        case rel=>exact⟨_,_,_,_,HS5.out,Nat.le_refl _⟩
        case measure=>exact Nat.lt_of_lt_of_le hmu2 hmu
  · have HZ:=zH hz
    have HER:=zH her;have hnn:∃t u,er=.iface t u:=by
      rcases her with h|h|⟨_,b,_,h,_⟩
      · exact absurd h.1 hz
      · exact⟨_,_,h.2.2⟩
      · exact⟨_,_,h⟩
    obtain⟨t,u,rfl⟩:=hnn;have P:=Qc hbl1 (.bool false) (.int .u64 0) (.slice none 0 0);have q0:=P.a0;have f0:=P.f0;have q1:=P.a1;have f1:=P.f1;have q2:=P.a2;have f2:=P.f2;have HP:=zH P;have HB:Hid (zB w (((w1.setCell ⟨w.heap.size,0,none⟩ (.bool false)).setCell ⟨w.heap.size,1,none⟩ (.int .u64 0)).setCell ⟨w.heap.size,2,none⟩ (.slice none 0 0))):=((hbw1.setCell zN _).setCell zN _).setCell zN _;have HK:Hid (ZZ (((w1.setCell ⟨w.heap.size,0,none⟩ (.bool false)).setCell ⟨w.heap.size,1,none⟩ (.int .u64 0)).setCell ⟨w.heap.size,2,none⟩ (.slice none 0 0)) (.iface t u) (qU v l).1 (qU v l).2):=HER.out.set3 (hbl1.cell 0) _ _ _;clear her hz hb1 hbl1 P;go_wp2;refine bodyPost_ret (v:=.tuple #[.agg #[.bool false,.int .u64 0,.slice none 0 0],.iface t u]) (by simp[results,Tryz.results10,go_sem,HP.out.r0,HP.out.r1,HP.out.r2]) rfl ?_;exact⟨Or.inl ⟨HZ.out,_,rfl,HK.out⟩,HB.out⟩
end
section
open Go.RowKit Go.Deep Sv
def inF(m:Nat)(ls:List Nat):List Bool:=(List.range m).map fun i=>decide (i∈ls)
theorem Jl(m:Nat)(ls:List Nat):(inF m ls).length=m:=by simp[inF]
theorem za0{m i:Nat}(ls:List Nat)(h:i<m):(inF m ls).getD i false=decide (i∈ls):=by simp[inF,List.getD_eq_getElem?_getD,h]
def YO(W:World)(g:Nat)(bs:List Bool):Prop:=∃cur,Blk W g 4 cur/\cur.size=bs.length/\∀j,j<bs.length->cur[j]?=some (.bool (bs.getD j false))
theorem YO.bools{W:World}{g:Nat}{bs:List Bool}(h:YO W g bs):KK W (some ⟨g,0,none⟩) bs:=fun j hj=>by
  obtain⟨cur,h1,_,h3⟩:=h;exact⟨_,rfl,h1.lt,by rw[add_plain,Nat.zero_add,h1.cell j,h3 j hj]⟩
theorem YO.tell{W:World}{g m:Nat}{ls:List Nat}(h:YO W g (inF m ls)){n:Nat}(hn:n<m):YO (W.setCell ⟨g,n,none⟩ (.bool true)) g (inF m (ls++[n])):=by
  obtain⟨cur,h1,h2,h3⟩:=h;rw[Jl] at h2 h3;refine⟨_,h1.set,by rw[Array.size_setIfInBounds,Jl,h2],fun j hj=>?_⟩;rw[Jl] at hj;rw[Array.getElem?_setIfInBounds,za0 _ hj]
  by_cases e:n=j
  · subst e
    rw[if_pos rfl,if_pos (by omega)];simp
  · rw[if_neg e,h3 j hj,za0 _ hj]
    have:(j∈ls++[n])↔j∈ls:=by simp;exact fun h=>absurd h.symm e
    simp only[this]
def zbe(v:Nat)(l:List (List Int))(b:Bool)(er:Value):Prop :=
  ∃r,Run v l st0 r/\((∃t,r=.sat t/\b=true/\er=.nilIface)\/(∃p,r=.unsat p/\b=false/\er=.nilIface)\/(r=.limit/\b=false/\er=.iface 76 (.int .i64 4)))
theorem zkB(v:Nat)(l:List (List Int))(a:Option Addr)(cap:Nat)(hn:a=none->cap=0)(w:World)(hI:qY w a l)(hm:l.length<=9223372036854775807)(hc:(qU v l).1=0) :
    zC 10 #[.int .i64 v,.slice a l.length cap] w fun e w'=>∃b nn pa pn pc er,e=.returned (.tuple #[.agg #[.bool b,.int .u64 nn,.slice pa pn pc],er])/\zbe v l b er/\zB w w':=by
  refine(zl5 v l a cap hn w hI hm).mono ?_;rintro e w' ⟨hs,hb⟩;rcases hs with ⟨h,_⟩|⟨-,r,hr,h⟩
  · exact absurd hc h
  · rw[Int.toNat_natCast] at hr
    rcases h with ⟨t,rfl,rfl⟩|⟨p,pa,pc,rfl,rfl,-⟩|⟨rfl,rfl⟩
    · exact⟨_,_,_,_,_,_,rfl,⟨_,hr,Or.inl ⟨t,rfl,rfl,rfl⟩⟩,hb⟩
    · exact⟨_,_,_,_,_,_,rfl,⟨_,hr,Or.inr (Or.inl ⟨p,rfl,rfl,rfl⟩)⟩,hb⟩
    · exact⟨_,_,_,_,_,_,rfl,⟨_,hr,Or.inr (Or.inr ⟨rfl,rfl,rfl⟩)⟩,hb⟩
end
section
open Go.RowKit Go.Deep Sv
noncomputable def xD(l:List (List Int)):Bool:=@decide (∃vals,xe vals l) (Classical.propDecidable _)
theorem KS{l:List (List Int)}:xD l=true↔∃vals,xe vals l:=by unfold xD;exact @decide_eq_true_iff _ (Classical.propDecidable _)
theorem znz{l:List (List Int)}:xD l=false↔∀vals,¬xe vals l:=by
  rw[<-Bool.not_eq_true,KS];exact⟨fun h v hv=>h ⟨v,hv⟩,fun h ⟨v,hv⟩=>h v hv⟩
theorem zfg{v:Nat}{l:List (List Int)}{b:Bool}{er:Value}(hv:v<=24)(hl:zU v l)(hn:∀r,Run v l st0 r->r≠.limit)(h:zbe v l b er):b=xD l/\er=.nilIface:=by
  obtain⟨r,hr,h⟩:=h;obtain⟨h1,h2⟩:=zkk hv hl hr (KM v) (zeh l);rcases h with ⟨t,rfl,rfl,rfl⟩|⟨p,rfl,rfl,rfl⟩|⟨rfl,-,-⟩
  · obtain⟨ds,-,hli,hco,-,hall⟩:=h2 t rfl
    refine⟨(KS.2 ⟨yK t 24,fun c hc=>?_⟩).symm,rfl⟩;obtain⟨x,hx,ht⟩:=hall c hc;exact⟨x,hx,zlX hli hco hv x ht⟩
  · exact⟨(znz.2 (h1 p rfl)).symm,rfl⟩
  · exact absurd rfl (hn _ hr)
end
section
open Go.RowKit Go.Deep Sv
theorem zap:∀(ls:List Ln) (i:Nat) (its out:List It),qX its<=8->qK ls i its=.ok out->qX out<=8
  |[],i,its,out,h0,h=>by cases h;exact h0
  |x :: r,i,its,out,h0,h=>by
    rw[qK] at h;split at h
    · cases h
    · split at h
      · split at h
        · cases h
        · split at h
          · cases h
          · rename_i hx
            exact zap r (i+1) _ out (by omega) h
      · exact zap r (i+1) its out h0 h
theorem zeU:∀(ls:List Ln) (i:Nat) (its:List It),yy ls i its=none->∀x∈ls,x.pair->x.it∈its
  |[],_,_,_,x,hx,_=>by cases hx
  |y :: r,i,its,h,x,hx,hp=>by
    unfold yy at h;split at h
    · cases h
    · rename_i hy
      rcases List.mem_cons.1 hx with rfl|hx
      · exact Classical.byContradiction fun e=>hy ⟨hp,e⟩
      · exact zeU r (i+1) its h x hx hp
theorem zik{ls:List Ln}{its:List It}(h:yM ls=.ok its):(∀x∈ls,x.pair->x.it∈its)/\∃g:List It,qX g<=8/\its.Perm g:=by
  unfold yM at h;split at h
  · cases h
  · split at h
    · cases h
    · rename_i g hg
      split at h
      · cases h
      · rename_i hm
        cases h;exact⟨zeU ls 0 _ hm,g,zap ls 0 [] g (by decide) hg,K8 g⟩
theorem zaV{its:List It}{x:It}(h:x∈its):0<=qW its x/\qW its x<its.length:=by
  unfold qW;cases hf:its.findIdx? (fun y=>decide (x=y)) with
  |none =>rw[List.findIdx?_eq_none_iff] at hf;have:=hf x h;simp at this
  |some i =>rw[List.findIdx?_eq_some_iff_getElem] at hf;obtain⟨hi,_⟩:=hf;exact⟨by simp,by simpa using hi⟩
theorem zci(its:List It)(nm:ByteArray)(rng:List zh):zS its.length ((yb its nm rng).map fun (k:Nat)=>((k:Int)+1)):=fun x hx=>by
  obtain⟨k,hk,rfl⟩:=List.mem_map.1 hx;have:=Ju its nm rng k hk;rw[qx];omega
theorem Jo{ls:List Ln}{its:List It}(h:yM ls=.ok its):∀x∈ofL its ls,zS its.length x.2/\x.2.length<=48:=by
  intro x hx;have hl:=(XI h).1;rcases List.mem_append.1 hx with hx|hx
  · obtain⟨k,hk,hx⟩:=List.mem_flatMap.1 hx
    obtain⟨j,hj,hx⟩:=List.mem_flatMap.1 hx;have hk':=List.mem_range.1 hk;have hj':=List.mem_range.1 hj;unfold pr0 at hx;split at hx
    · rw[List.mem_singleton] at hx
      subst hx;refine⟨fun y hy=>?_,by simp⟩;simp only[List.mem_cons,List.not_mem_nil,or_false] at hy;rw[qx];unfold qF at hy;rcases hy with rfl|rfl<;>omega
    · cases hx
  · obtain⟨n,hn,hx⟩:=List.mem_flatMap.1 hx
    have hn':=List.mem_range.1 hn;have hmem:ls.getD n default∈ls:=by rw[List.getD_eq_getElem?_getD,List.getElem?_eq_getElem hn'];exact List.getElem_mem hn'
    have hpair:=(zik h).1 _ hmem;generalize ls.getD n default=X at *;have l1:=XZ its X.name X.rng;have l2:=XZ its X.other X.rng;unfold yG at hx;split at hx
    · rw[List.mem_singleton] at hx
      subst hx;exact⟨zci _ _ _,by simp;omega⟩
    · split at hx
      · rename_i hk
        rw[List.mem_singleton] at hx;subst hx;have hnb:=zaV (hpair (Or.inl hk));refine⟨fun y hy=>?_,by simp;omega⟩;rcases List.mem_cons.1 hy with rfl|hy
        · rw[qx];unfold qF;omega
        · exact zci _ _ _ y hy
      · split at hx
        · rename_i hk
          obtain⟨k,hk2,rfl⟩:=List.mem_map.1 hx;have hnb:=zaV (hpair (Or.inr hk));have hka:=Ju its X.other X.rng k hk2;refine⟨fun y hy=>?_,by simp⟩;simp only[List.mem_cons,List.not_mem_nil,or_false] at hy;rw[qx];unfold qF at hy;rcases hy with rfl|rfl<;>omega
        · cases hx
end
namespace Bd
open Go.RowKit Go.Deep Sv
structure xT(B:Nat)(w:World)(p s b:Nat)(O:Nat->Prop)(vars:Nat)(room:Int)(st:List Nd × Int):Prop where
  space:zm B w s b O vars room st.1
  blk:Blk w p 48 #[.pointer (some ⟨s,0,none⟩),.int .i64 st.2]
  out:¬O p
theorem zm.base{B B' s b vars:Nat}{O:Nat->Prop}{room:Int}{ns:List Nd}{w:World}(h:zm B w s b O vars room ns)(hB:B'<=B):zm B' w s b O vars room ns:=by
  obtain⟨bm,v,L,next,hA,h1,h2,h3⟩:=h.arena;exact⟨⟨bm,v,L,next,⟨hA.lt,hA.croom,hA.cnodes,hA.cmap,hA.cnext,hA.froz,Go.Proofs.YtjmfeefogikdfaaGreatDoor.Bd.ownsRow_base hA.row hB,hA.hmap,hA.d1,hA.d2,hA.d3,Nat.le_trans hB hA.B1,Nat.le_trans hB hA.B2⟩,h1,h2,h3⟩,fun k hk=>⟨Nat.le_trans hB (h.own k hk).1,(h.own k hk).2⟩,h.sO,h.slt,h.c0,h.c1⟩
theorem xT.new{B p s b vars:Nat}{O:Nat->Prop}{room:Int}{st:List Nd × Int}{w w':World}(h:xT B w p s b O vars room st)(hb:zB w w'):xT B w' p s b O vars room st :=
  ⟨h.space.new hb,h.blk.below hb h.blk.lt,h.out⟩
theorem zkf{B:Nat}{W:World}{a:Option Addr}{c:Nat}{fv:Value}{P:List (Int × List Int)}(h:RS B W (.slice a P.length c) fv (P.map Prod.snd) (P.map Prod.fst)):qY W a (P.map Prod.snd):=by
  obtain⟨cs,h1,h2,_⟩:=h.crow;exact zx.cls (B:=0) (cap:=c) h2 (by simpa using ownsRow_base h1 (Nat.zero_le _))
theorem zbY(bk:Nat)(ls:List Ln)(its:List It)(w:World)(h:y9 w bk ls its)(hN:yM ls=.ok its)(hl:its.length<=10)(hll:ls.length<=120)(hnm:∀x∈ls,x.name.size<=100000/\x.other.size<=100000)(hP:(ofL its ls).length<=200)(room:Int)(hr0:0<=room)(hr4:room<=4000)(hrl:((2*2^its.length+25*its.length:Nat):Int)<=room+1) :
    zC 6 #[.pointer (some ⟨bk,0,none⟩),.int .i64 room] w fun e w'=>∃p s b O,e=.returned (.tuple #[.pointer (some ⟨p,0,none⟩),.nilIface])/\xT w.heap.size w' p s b O its.length room (clF ((ofL its ls).map Prod.snd))/\zB w w':=by
  have HO:Hid (zC 13 #[.pointer (some ⟨bk,0,none⟩)] w fun e w'=>∃a c fa fn fc,e=.returned (.tuple #[.agg #[.int .i64 its.length,.slice a (ofL its ls).length c,.slice fa fn fc],.nilIface])/\qY w' a ((ofL its ls).map Prod.snd)/\zB w w'):=(za1 bk ls its w h (by omega) hll hnm).mono fun e w' hr=>by
    rcases hr with ⟨h1,-⟩|⟨-,cv,fv,h1,h2,h3⟩
    · omega
    · obtain⟨cs,c1,-⟩:=h2.crow
      obtain⟨a,c,rfl,-,-⟩:=Go.Proofs.YtjmfeefogikdfaaGreatDoor.row_form c1;obtain⟨fa,fc,rfl,-,-⟩:=Go.Proofs.YtjmfeefogikdfaaGreatDoor.row_form h2.frow;rw[List.length_map] at h1 h2;exact⟨a,c,fa,_,fc,h1,zkf h2,h3⟩
  have hfine:=Jo hN;have hLL:zU its.length ((ofL its ls).map Prod.snd):=fun c hc=>by
    obtain⟨x,hx,rfl⟩:=List.mem_map.1 hc;exact(hfine x hx).1
  have hmc:∀c∈(ofL its ls).map Prod.snd,c.length<=9223372036854775807:=fun c hc=>by
    obtain⟨x,hx,rfl⟩:=List.mem_map.1 hc;have:=(hfine x hx).2;omega
  have hKl:((ofL its ls).map Prod.snd).length=(ofL its ls).length:=List.length_map _;generalize (ofL its ls).map Prod.snd=K at *;rw[<-hKl] at HO hP;have HLL:=zH hLL;have HMC:=zH hmc;have HRL:=zH hrl;clear h hnm hfine hLL hmc hN hKl hrl;generalize its.length=vars at *;go_enter Tryz.func6,Tryz.ntmps6;go_wp2_with fail;refine HO.out.mono ?_;rintro e w1 ⟨a,c,fa,fn,fc,rfl,hI1,hb1⟩;have kR:=Blk.new w1 27 #[.int .i64 vars,.slice a K.length c,.slice fa fn fc];have hbA:=Go.Proofs.YtjmfeefogikdfaaGreatDoor.below_new w1 (.cells #[.int .i64 vars,.slice a K.length c,.slice fa fn fc] 27);have hIA:=hI1.below hbA;have hb2:=zT hb1 hbA;clear HO hI1;go_upto_region 4 with fail;generalize w1.alloc (.cells #[.int .i64 vars,.slice a K.length c,.slice fa fn fc] 27)=WA at *;have HNW:=zH (zko vars (by omega) room hr0 hr4 WA WA.heap.size zN);have HIA:=zH hIA;have HB2:=zH hb2;have kc0:=kR.cell 0;have KR:=zH kR;have hsz:=hb2.size;have hw1:=hbA.size;clear hIA hb2 kR hbA hb1;go_wp2_with fail;refine HNW.out.mono ?_;rintro e w2 ⟨s,b,O,rfl,hS,hs,hO,hb3⟩;have HCL:=zH (zgz (w0:=WA) hr4 HRL.out hb3 hS hl K HLL.out a c HIA.out (by omega) HMC.out);have kr2:w2.cell? ⟨w1.heap.size,1,none⟩=some (.slice a K.length c):=(KR.out.below hb3 KR.out.lt).cell 1;have hs2:=hS.slt;have HB3:=zH hb3;have hso:=fun k h=>(hS.own k h).2;clear hS hb3 HNW;go_wp2_with fail;refine HCL.out.mono ?_;rintro e w3 ⟨rfl,O3,hS3,hM3⟩;have hw3:=hM3.size;have hw2:=HB3.out.size;have hb4:zB WA w3:=HB3.out.trans (hM3.below hw2 hO);have hb5:zB w3 (w3.alloc (.cells #[.pointer (some ⟨s,0,none⟩),.int .i64 (clF K).2] 48)):=Go.Proofs.YtjmfeefogikdfaaGreatDoor.below_new w3 _;have HFIN:Hid (xT w.heap.size (w3.alloc (.cells #[.pointer (some ⟨s,0,none⟩),.int .i64 (clF K).2] 48)) w3.heap.size s b O3 vars room (clF K)):=⟨(hS3.new hb5).base hsz,Blk.new _ _ _,fun h=>by have:=(hS3.own _ h).2;omega⟩;have HBF:Hid (zB w (w3.alloc (.cells #[.pointer (some ⟨s,0,none⟩),.int .i64 (clF K).2] 48))):=(HB2.out.trans (hb4.mono hsz)).trans (hb5.mono (by omega));clear hS3 hM3 hb4 hb5 HCL;go_wp2;go_ret2;exact⟨_,s,b,O3,rfl,HFIN.out,HBF.out⟩
end Bd
end Go.Proofs.YtjmfeefogikdfaaGreatDoor
