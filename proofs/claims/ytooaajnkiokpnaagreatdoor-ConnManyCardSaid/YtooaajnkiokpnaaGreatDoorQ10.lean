/-
  Part of a proof: frame's putFields, by its contract. Conditions: those that each theorem names.
-/
import Derived.Test.YtooaajnkiokpnaaGreatDoorQ01
import Derived.Test.YtooaajnkiokpnaaGreatDoorQ07
import Derived.Deep.RegionHeld3
namespace Go.Proofs.YtooaajnkiokpnaaGreatDoor
open Go.RowKit Go.WideShapes
set_option maxHeartbeats 2000000
set_option maxRecDepth 100000
section
attribute [local irreducible] Fm.c
theorem Y9{n:Nat}(h:n≤2147483647):bits .or .u32 (n:Int) 2147483648=((n+2147483648:Nat):Int):=by
 rw[show (2147483648:Int)=((2147483648:Nat):Int) from rfl,u32_or_nat n _ (by omega) (by omega),Nat.or_comm]
 have:=Nat.two_pow_add_eq_or_of_lt (i:=31) (show n<2 ^ 31 by omega) 1
 rw[show 2 ^ 31*1=2147483648 from rfl] at this
 omega
theorem Q4{f:Frm}(hl:ya f.ty f.fl=false)(h:f.ty≠3∧f.ty≠4∧f.ty≠5∧f.ty≠7∧f.ty≠8):zw f=[]:=by
 unfold zw
 rw[if_neg (by rw[hl];simp),if_neg h.1,if_neg h.2.1,if_neg h.2.2.1,if_neg h.2.2.2.1,if_neg h.2.2.2.2]
theorem Z6{f:Frm}(h:f.ty≠1∧f.ty≠2):ya f.ty f.fl=false:=qa (by omega)
theorem vo(f:Frm)(hk:f.Ok)(hoth:f.oth≤2147483647)(hwin:f.win≤2147483647)(hn:f.sets.length≤1000000){dA sA:Option Addr}{dc sc:Nat}{base:Nat}{v:Value}{l:List UInt8}{w:World}{R:Nat→Prop}(hR:RdS w R sA (enl sgc f.sets))(hRb:∀k,R k→k<w.heap.size∧¬ob v k)
  (hO:Bo w base 5 v l) (hbase:base≤w.heap.size) (hl:l.length≤1000000) :
  Calls Tryz.prog 151 #[v,.agg (f.fm dA dc sA sc).c] w (y5 w base v (l++zw f)):=by
 obtain⟨i0,hi0,hz0,hz1,hz2⟩:=zr qk
 have h32:=zfw ⟨f.fl,hk.fl⟩
 simp only at h32
 have HX:=z2w (Row.new w 66 (f.fm dA dc sA sc).c)
 have hO1:=hO.alloc (.cells (f.fm dA dc sA sc).c 66)
 have hF1:Fs (ob v) w (w.alloc (.cells (f.fm dA dc sA sc).c 66)):=(Fs.refl _ w).alloc _
 have hs1:w.heap.size<(w.alloc (.cells (f.fm dA dc sA sc).c 66)).heap.size:=HX.out.lt
 obtain⟨c0,c1,_,_,_,c5,c6,c7,c8,c9,c10⟩:=zf HX.out
 have HF1:=z2w hF1
 have HO1:Hid (Bo _ base 5 v l):=hO1
 have HVL:Hid (∀k,ob v k→k<w.heap.size):=λk hk=>(OwS.lt hO k hk).2
 have HOw:Hid (Bo w base 5 v l):=hO
 clear hO hF1 hO1
 rcases kinds f.ty with h|h|h|h|h|h|h|h|h|h|h
 ·rw[Q4 (Z6 (by omega)) (by omega),List.append_nil]
  have c0':_=some (Value.int .u8 ((f.ty:Nat):Int)):=c0
  rw[h] at c0'
  clear c0 h32 h
  go_enter Tryz.func151,Tryz.ntmps151
  go_wp2
  go_ret
  exact⟨v,rfl,HO1.out,HF1.out,Nx.refl w v⟩
 ·by_cases hb:f.fl / 32%2=1
  ·have hl1:=Zt (ty:=f.ty) (fl:=f.fl) (.inr ⟨h,hb⟩)
   rw[hb] at h32
   cases hal:f.al with
   |false=>
    rw[show zw f=be 4 f.oth++[UInt8.ofNat f.wt] by unfold zw;rw[if_pos hl1,hal];rfl]
    have hpn:=λ(W:World) (h1:Bo W base 5 v l) (h2:base≤W.heap.size)=>qp (n:=f.oth) (by omega) h1 h2 (by omega)
    have hor:bits .or .u32 ((f.oth:Nat):Int) 2147483648=((f.oth+2147483648:Nat):Int):=Y9 hoth
    have c0':_=some (Value.int .u8 ((f.ty:Nat):Int)):=c0
    have c1':_=some (Value.int .u8 ((f.fl:Nat):Int)):=c1
    have c6':_=some (Value.int .u32 ((f.oth:Nat):Int)):=c6
    have c7':(w.alloc (.cells (f.fm dA dc sA sc).c 66)).drew.cell? ⟨w.heap.size,7,none⟩=some (Value.int .u8 ((f.wt:Nat):Int)):=c7
    have c8':_=some (Value.bool f.al):=c8
    rw[hal] at c8'
    have hwt:f.wt<256:=hk.wt
    rw[h] at c0'
    have hbl:byc [UInt8.ofNat f.wt]=[.int .u8 ((f.wt:Nat):Int)]:=by
     simp only[byc,List.map_cons,List.map_nil,Qx]
     rw[show ((f.wt:Nat):Int)%256=((f.wt:Nat):Int) by omega]
    have hbl1:(be 4 f.oth).length=4:=zl 4 _
    generalize hbe:be 4 f.oth=bs at *
    clear c0 c1 c5 c6 c7 c8 c9 c10 h hwin hbe hal hl1
    go_enter Tryz.func151,Tryz.ntmps151
    go_wp2_with fail
    generalize w.alloc (.cells (f.fm dA dc sA sc).c 66)=w0 at *
    refine wp_region_held_drew (S:=λw'=>w'.cell? ⟨w.heap.size,7,none⟩=some (Value.int .u8 ((f.wt:Nat):Int))) (by kernel_rfl) c7' (λhHeld=>?_)
    refine tkH 0 ?_
    refine tkH 1 ?_
    refine tkH 3 ?_
    refine tkH 4 ?_
    refine wpAnyH_ready (rs:=[2,5]) (by kernel_rfl) (by simp) ?_
    refine AllReadyH.cons rfl (λK hK=>?_) (AllReadyH.cons rfl (λK hK=>?_) AllReadyH.nil)
    ·go_simp
     go_at_call 149
     refine(hpn w0.drew (show Bo w0.drew base 5 v l from HO1.out) (show base≤w0.drew.heap.size by show base≤w0.heap.size;omega)).mono ?_
     rintro e w2 ⟨v2,rfl,hO2,hF2,hN2⟩
     have HF2:Hid (Fs (ob v) w w2):=(HF1.out.drewN 1).trans hF2 λ_ _ h=>h
     have HNd:=z2w hN2
     have HN2:Hid (Nx w v v2):=(Nx.refl w v).trans hN2 HF1.out.size
     have HO2:=z2w hO2
     have HX2:=z2w (hF2.row (λe=>by have:=HVL.out _ e;omega) (show Row w0.drew _ _ _ from HX.out))
     have hb2:base≤w2.heap.size:=by have:=HF2.out.size;omega
     obtain⟨_,_,_,_,_,_,_,d7,_⟩:=zf HX2.out
     have d7':w2.cell? ⟨w.heap.size,7,none⟩=some (Value.int .u8 ((f.wt:Nat):Int)):=d7
     refine hK.out _ _ d7' (λhHeld=>?_)
     clear hK K hO2 hF2 hN2 d7 d7' hpn
     try refine ptk ?_
     refine rdH 5 λK hK=>?_
     go_simp
     refine hK.out _ _ ?hSfalse (λhHeld=>?_)
     case hSfalse=>exact(World.cell?_alloc_lt _ _ ⟨w.heap.size,7,none⟩ (by have:=HX2.out.lt;exact this)).trans (by obtain⟨_,_,_,_,_,_,_,d7,_⟩:=zf HX2.out;exact d7)
     clear hK K
     try refine ptk ?_
     refine rdH 6 λK hK=>?_
     refine jp rfl (.tmp 36) (.tmp 39) 22 rfl base 5 i0 Tryz.underlying22 hi0 hz0 hz1 hz2 v2 (l++bs) rfl (HO2.out.alloc _) _ _ [UInt8.ofNat f.wt] _ _ rfl rfl (RdB.row (Row.new w2 _ _) hbl.symm (Nat.lt_succ_self _)) (by rw[List.length_append];simp;omega) (by simp;omega) (λv3 w3 hO3 hF3 hN3=>?_)
     rw[List.append_assoc] at hO3
     have HP:Hid (y5 w base v (l++(bs++[UInt8.ofNat f.wt])) (.returned v3) w3):=⟨v3,rfl,hO3,(HF2.out.alloc _).next HN2.out hF3,HN2.out.trans hN3 (by have:=HF2.out.size;simp;omega)⟩
     have hX3:=hF3.row (λe=>by
      rcases HNd.out.own e with h1|h1
      ·have:=HVL.out _ h1;omega
      ·have h2:w0.heap.size≤w.heap.size:=h1;omega) (HX2.out.alloc _)
     obtain⟨_,_,_,_,_,_,_,d7,_⟩:=zf hX3
     refine hK.out _ _ d7 (λhHeld=>?_)
     clear hK K hO3 hF3 hN3 hX3 d7
     try refine ptk ?_
     refine tkH 7 ?_
     refine dnH ?_
     go_wp2_with fail
     go_ret
     exact HP.out
    ·go_simp
     have hX1:Row (w0.alloc (.cells #[.int .u8 ((f.wt:Nat):Int)] 5)).drew w.heap.size 66 (f.fm dA dc sA sc).c:=Row.alloc HX.out _
     obtain⟨_,_,_,_,_,_,_,d7,_⟩:=zf hX1
     have hL1:Row (w0.alloc (.cells #[.int .u8 ((f.wt:Nat):Int)] 5)).drew w0.heap.size 5 #[.int .u8 ((f.wt:Nat):Int)]:=Row.new w0 _ _
     have hO1:Bo (w0.alloc (.cells #[.int .u8 ((f.wt:Nat):Int)] 5)).drew base 5 v l:=OwS.alloc HO1.out _
     have hF1:Fs (ob v) w (w0.alloc (.cells #[.int .u8 ((f.wt:Nat):Int)] 5)).drew:=(HF1.out.alloc _).drewN 1
     have hs2:w0.heap.size<(w0.alloc (.cells #[.int .u8 ((f.wt:Nat):Int)] 5)).drew.heap.size:=hL1.lt
     refine hK.out _ _ d7 (λhHeld=>?_)
     clear hK K d7
     have HX1:=z2w hX1
     have HL1:=z2w hL1
     have HOa:=z2w hO1
     have HFa:=z2w hF1
     clear hX1 hL1 hO1 hF1 hHeld
     generalize (w0.alloc (.cells #[.int .u8 ((f.wt:Nat):Int)] 5)).drew=w1 at *
     have hHeld:w1.cell? ⟨w.heap.size,7,none⟩=some (Value.int .u8 ((f.wt:Nat):Int)):=by obtain⟨_,_,_,_,_,_,_,d7,_⟩:=zf HX1.out;exact d7
     try refine ptk ?_
     refine rdH 2 λK hK=>?_
     go_simp
     go_at_call 149
     refine(hpn w1 HOa.out (by omega)).mono ?_
     rintro e w2 ⟨v2,rfl,hO2,hF2,hN2⟩
     have HF2:Hid (Fs (ob v) w w2):=HFa.out.trans hF2 λ_ _ h=>h
     have HNd:=z2w hN2
     have HN2:Hid (Nx w v v2):=(Nx.refl w v).trans hN2 HFa.out.size
     have HO2:=z2w hO2
     have HX2:=z2w (hF2.row (λe=>by have:=HVL.out _ e;omega) HX1.out)
     have HL2:=z2w (hF2.row (λe=>by have:=HVL.out _ e;omega) HL1.out)
     have hb2:base≤w2.heap.size:=by have:=HF2.out.size;omega
     obtain⟨_,_,_,_,_,_,_,d7,_⟩:=zf HX2.out
     refine hK.out _ _ d7 (λhHeld=>?_)
     clear hK K hO2 hF2 hN2 d7 hpn
     try refine ptk ?_
     refine rdH 6 λK hK=>?_
     refine jp rfl (.tmp 36) (.tmp 39) 22 rfl base 5 i0 Tryz.underlying22 hi0 hz0 hz1 hz2 v2 (l++bs) rfl HO2.out _ _ [UInt8.ofNat f.wt] _ _ rfl rfl (RdB.row HL2.out hbl.symm HL2.out.lt) (by rw[List.length_append];simp;omega) hb2 (λv3 w3 hO3 hF3 hN3=>?_)
     rw[List.append_assoc] at hO3
     have HP:Hid (y5 w base v (l++(bs++[UInt8.ofNat f.wt])) (.returned v3) w3):=⟨v3,rfl,hO3,HF2.out.next HN2.out hF3,HN2.out.trans hN3 HF2.out.size⟩
     have hX3:=hF3.row (λe=>by
      rcases HNd.out.own e with h1|h1
      ·have:=HVL.out _ h1;omega
      ·omega) HX2.out
     obtain⟨_,_,_,_,_,_,_,d7,_⟩:=zf hX3
     refine hK.out _ _ d7 (λhHeld=>?_)
     clear hK K hO3 hF3 hN3 hX3 d7
     try refine ptk ?_
     refine tkH 7 ?_
     refine dnH ?_
     go_wp2_with fail
     go_ret
     exact HP.out
   |true=>
    rw[show zw f=be 4 (f.oth+2147483648)++[UInt8.ofNat f.wt] by unfold zw;rw[if_pos hl1,hal];rfl]
    have hpn:=λ(W:World) (h1:Bo W base 5 v l) (h2:base≤W.heap.size)=>qp (n:=(f.oth+2147483648)) (by omega) h1 h2 (by omega)
    have hor:bits .or .u32 ((f.oth:Nat):Int) 2147483648=((f.oth+2147483648:Nat):Int):=Y9 hoth
    have c0':_=some (Value.int .u8 ((f.ty:Nat):Int)):=c0
    have c1':_=some (Value.int .u8 ((f.fl:Nat):Int)):=c1
    have c6':_=some (Value.int .u32 ((f.oth:Nat):Int)):=c6
    have c7':(w.alloc (.cells (f.fm dA dc sA sc).c 66)).drew.cell? ⟨w.heap.size,7,none⟩=some (Value.int .u8 ((f.wt:Nat):Int)):=c7
    have c8':_=some (Value.bool f.al):=c8
    rw[hal] at c8'
    have hwt:f.wt<256:=hk.wt
    rw[h] at c0'
    have hbl:byc [UInt8.ofNat f.wt]=[.int .u8 ((f.wt:Nat):Int)]:=by
     simp only[byc,List.map_cons,List.map_nil,Qx]
     rw[show ((f.wt:Nat):Int)%256=((f.wt:Nat):Int) by omega]
    have hbl1:(be 4 (f.oth+2147483648)).length=4:=zl 4 _
    generalize hbe:be 4 (f.oth+2147483648)=bs at *
    clear c0 c1 c5 c6 c7 c8 c9 c10 h hwin hbe hal hl1
    go_enter Tryz.func151,Tryz.ntmps151
    go_wp2_with fail
    generalize w.alloc (.cells (f.fm dA dc sA sc).c 66)=w0 at *
    refine wp_region_held_drew (S:=λw'=>w'.cell? ⟨w.heap.size,7,none⟩=some (Value.int .u8 ((f.wt:Nat):Int))) (by kernel_rfl) c7' (λhHeld=>?_)
    refine tkH 0 ?_
    refine tkH 1 ?_
    refine tkH 3 ?_
    refine tkH 4 ?_
    refine wpAnyH_ready (rs:=[2,5]) (by kernel_rfl) (by simp) ?_
    refine AllReadyH.cons rfl (λK hK=>?_) (AllReadyH.cons rfl (λK hK=>?_) AllReadyH.nil)
    ·go_simp
     go_at_call 149
     refine(hpn w0.drew (show Bo w0.drew base 5 v l from HO1.out) (show base≤w0.drew.heap.size by show base≤w0.heap.size;omega)).mono ?_
     rintro e w2 ⟨v2,rfl,hO2,hF2,hN2⟩
     have HF2:Hid (Fs (ob v) w w2):=(HF1.out.drewN 1).trans hF2 λ_ _ h=>h
     have HNd:=z2w hN2
     have HN2:Hid (Nx w v v2):=(Nx.refl w v).trans hN2 HF1.out.size
     have HO2:=z2w hO2
     have HX2:=z2w (hF2.row (λe=>by have:=HVL.out _ e;omega) (show Row w0.drew _ _ _ from HX.out))
     have hb2:base≤w2.heap.size:=by have:=HF2.out.size;omega
     obtain⟨_,_,_,_,_,_,_,d7,_⟩:=zf HX2.out
     have d7':w2.cell? ⟨w.heap.size,7,none⟩=some (Value.int .u8 ((f.wt:Nat):Int)):=d7
     refine hK.out _ _ d7' (λhHeld=>?_)
     clear hK K hO2 hF2 hN2 d7 d7' hpn
     try refine ptk ?_
     refine rdH 5 λK hK=>?_
     go_simp
     refine hK.out _ _ ?hStrue (λhHeld=>?_)
     case hStrue=>exact(World.cell?_alloc_lt _ _ ⟨w.heap.size,7,none⟩ (by have:=HX2.out.lt;exact this)).trans (by obtain⟨_,_,_,_,_,_,_,d7,_⟩:=zf HX2.out;exact d7)
     clear hK K
     try refine ptk ?_
     refine rdH 6 λK hK=>?_
     refine jp rfl (.tmp 36) (.tmp 39) 22 rfl base 5 i0 Tryz.underlying22 hi0 hz0 hz1 hz2 v2 (l++bs) rfl (HO2.out.alloc _) _ _ [UInt8.ofNat f.wt] _ _ rfl rfl (RdB.row (Row.new w2 _ _) hbl.symm (Nat.lt_succ_self _)) (by rw[List.length_append];simp;omega) (by simp;omega) (λv3 w3 hO3 hF3 hN3=>?_)
     rw[List.append_assoc] at hO3
     have HP:Hid (y5 w base v (l++(bs++[UInt8.ofNat f.wt])) (.returned v3) w3):=⟨v3,rfl,hO3,(HF2.out.alloc _).next HN2.out hF3,HN2.out.trans hN3 (by have:=HF2.out.size;simp;omega)⟩
     have hX3:=hF3.row (λe=>by
      rcases HNd.out.own e with h1|h1
      ·have:=HVL.out _ h1;omega
      ·have h2:w0.heap.size≤w.heap.size:=h1;omega) (HX2.out.alloc _)
     obtain⟨_,_,_,_,_,_,_,d7,_⟩:=zf hX3
     refine hK.out _ _ d7 (λhHeld=>?_)
     clear hK K hO3 hF3 hN3 hX3 d7
     try refine ptk ?_
     refine tkH 7 ?_
     refine dnH ?_
     go_wp2_with fail
     go_ret
     exact HP.out
    ·go_simp
     have hX1:Row (w0.alloc (.cells #[.int .u8 ((f.wt:Nat):Int)] 5)).drew w.heap.size 66 (f.fm dA dc sA sc).c:=Row.alloc HX.out _
     obtain⟨_,_,_,_,_,_,_,d7,_⟩:=zf hX1
     have hL1:Row (w0.alloc (.cells #[.int .u8 ((f.wt:Nat):Int)] 5)).drew w0.heap.size 5 #[.int .u8 ((f.wt:Nat):Int)]:=Row.new w0 _ _
     have hO1:Bo (w0.alloc (.cells #[.int .u8 ((f.wt:Nat):Int)] 5)).drew base 5 v l:=OwS.alloc HO1.out _
     have hF1:Fs (ob v) w (w0.alloc (.cells #[.int .u8 ((f.wt:Nat):Int)] 5)).drew:=(HF1.out.alloc _).drewN 1
     have hs2:w0.heap.size<(w0.alloc (.cells #[.int .u8 ((f.wt:Nat):Int)] 5)).drew.heap.size:=hL1.lt
     refine hK.out _ _ d7 (λhHeld=>?_)
     clear hK K d7
     have HX1:=z2w hX1
     have HL1:=z2w hL1
     have HOa:=z2w hO1
     have HFa:=z2w hF1
     clear hX1 hL1 hO1 hF1 hHeld
     generalize (w0.alloc (.cells #[.int .u8 ((f.wt:Nat):Int)] 5)).drew=w1 at *
     have hHeld:w1.cell? ⟨w.heap.size,7,none⟩=some (Value.int .u8 ((f.wt:Nat):Int)):=by obtain⟨_,_,_,_,_,_,_,d7,_⟩:=zf HX1.out;exact d7
     try refine ptk ?_
     refine rdH 2 λK hK=>?_
     go_simp
     go_at_call 149
     refine(hpn w1 HOa.out (by omega)).mono ?_
     rintro e w2 ⟨v2,rfl,hO2,hF2,hN2⟩
     have HF2:Hid (Fs (ob v) w w2):=HFa.out.trans hF2 λ_ _ h=>h
     have HNd:=z2w hN2
     have HN2:Hid (Nx w v v2):=(Nx.refl w v).trans hN2 HFa.out.size
     have HO2:=z2w hO2
     have HX2:=z2w (hF2.row (λe=>by have:=HVL.out _ e;omega) HX1.out)
     have HL2:=z2w (hF2.row (λe=>by have:=HVL.out _ e;omega) HL1.out)
     have hb2:base≤w2.heap.size:=by have:=HF2.out.size;omega
     obtain⟨_,_,_,_,_,_,_,d7,_⟩:=zf HX2.out
     refine hK.out _ _ d7 (λhHeld=>?_)
     clear hK K hO2 hF2 hN2 d7 hpn
     try refine ptk ?_
     refine rdH 6 λK hK=>?_
     refine jp rfl (.tmp 36) (.tmp 39) 22 rfl base 5 i0 Tryz.underlying22 hi0 hz0 hz1 hz2 v2 (l++bs) rfl HO2.out _ _ [UInt8.ofNat f.wt] _ _ rfl rfl (RdB.row HL2.out hbl.symm HL2.out.lt) (by rw[List.length_append];simp;omega) hb2 (λv3 w3 hO3 hF3 hN3=>?_)
     rw[List.append_assoc] at hO3
     have HP:Hid (y5 w base v (l++(bs++[UInt8.ofNat f.wt])) (.returned v3) w3):=⟨v3,rfl,hO3,HF2.out.next HN2.out hF3,HN2.out.trans hN3 HF2.out.size⟩
     have hX3:=hF3.row (λe=>by
      rcases HNd.out.own e with h1|h1
      ·have:=HVL.out _ h1;omega
      ·omega) HX2.out
     obtain⟨_,_,_,_,_,_,_,d7,_⟩:=zf hX3
     refine hK.out _ _ d7 (λhHeld=>?_)
     clear hK K hO3 hF3 hN3 hX3 d7
     try refine ptk ?_
     refine tkH 7 ?_
     refine dnH ?_
     go_wp2_with fail
     go_ret
     exact HP.out
  ·have hl1:=qa (ty:=f.ty) (fl:=f.fl) (by omega)
   rw[show f.fl / 32%2=0 by omega] at h32
   rw[Q4 hl1 (by omega),List.append_nil]
   have c0':_=some (Value.int .u8 ((f.ty:Nat):Int)):=c0
   have c1':_=some (Value.int .u8 ((f.fl:Nat):Int)):=c1
   rw[h] at c0'
   clear c0 c1 h hl1 hb
   go_enter Tryz.func151,Tryz.ntmps151
   go_wp2
   go_ret
   exact⟨v,rfl,HO1.out,HF1.out,Nx.refl w v⟩
 ·have hl1:=Zt (ty:=f.ty) (fl:=f.fl) (.inl h)
  cases hal:f.al with
  |false=>
   rw[show zw f=be 4 f.oth++[UInt8.ofNat f.wt] by unfold zw;rw[if_pos hl1,hal];rfl]
   have hpn:=λ(W:World) (h1:Bo W base 5 v l) (h2:base≤W.heap.size)=>qp (n:=f.oth) (by omega) h1 h2 (by omega)
   have hor:bits .or .u32 ((f.oth:Nat):Int) 2147483648=((f.oth+2147483648:Nat):Int):=Y9 hoth
   have c0':_=some (Value.int .u8 ((f.ty:Nat):Int)):=c0
   have c1':_=some (Value.int .u8 ((f.fl:Nat):Int)):=c1
   have c6':_=some (Value.int .u32 ((f.oth:Nat):Int)):=c6
   have c7':(w.alloc (.cells (f.fm dA dc sA sc).c 66)).drew.cell? ⟨w.heap.size,7,none⟩=some (Value.int .u8 ((f.wt:Nat):Int)):=c7
   have c8':_=some (Value.bool f.al):=c8
   rw[hal] at c8'
   have hwt:f.wt<256:=hk.wt
   rw[h] at c0'
   have hbl:byc [UInt8.ofNat f.wt]=[.int .u8 ((f.wt:Nat):Int)]:=by
    simp only[byc,List.map_cons,List.map_nil,Qx]
    rw[show ((f.wt:Nat):Int)%256=((f.wt:Nat):Int) by omega]
   have hbl1:(be 4 f.oth).length=4:=zl 4 _
   generalize hbe:be 4 f.oth=bs at *
   clear c0 c1 c5 c6 c7 c8 c9 c10 h hwin hbe hal hl1
   go_enter Tryz.func151,Tryz.ntmps151
   go_wp2_with fail
   generalize w.alloc (.cells (f.fm dA dc sA sc).c 66)=w0 at *
   refine wp_region_held_drew (S:=λw'=>w'.cell? ⟨w.heap.size,7,none⟩=some (Value.int .u8 ((f.wt:Nat):Int))) (by kernel_rfl) c7' (λhHeld=>?_)
   refine tkH 0 ?_
   refine tkH 1 ?_
   refine tkH 3 ?_
   refine tkH 4 ?_
   refine wpAnyH_ready (rs:=[2,5]) (by kernel_rfl) (by simp) ?_
   refine AllReadyH.cons rfl (λK hK=>?_) (AllReadyH.cons rfl (λK hK=>?_) AllReadyH.nil)
   ·go_simp
    go_at_call 149
    refine(hpn w0.drew (show Bo w0.drew base 5 v l from HO1.out) (show base≤w0.drew.heap.size by show base≤w0.heap.size;omega)).mono ?_
    rintro e w2 ⟨v2,rfl,hO2,hF2,hN2⟩
    have HF2:Hid (Fs (ob v) w w2):=(HF1.out.drewN 1).trans hF2 λ_ _ h=>h
    have HNd:=z2w hN2
    have HN2:Hid (Nx w v v2):=(Nx.refl w v).trans hN2 HF1.out.size
    have HO2:=z2w hO2
    have HX2:=z2w (hF2.row (λe=>by have:=HVL.out _ e;omega) (show Row w0.drew _ _ _ from HX.out))
    have hb2:base≤w2.heap.size:=by have:=HF2.out.size;omega
    obtain⟨_,_,_,_,_,_,_,d7,_⟩:=zf HX2.out
    have d7':w2.cell? ⟨w.heap.size,7,none⟩=some (Value.int .u8 ((f.wt:Nat):Int)):=d7
    refine hK.out _ _ d7' (λhHeld=>?_)
    clear hK K hO2 hF2 hN2 d7 d7' hpn
    try refine ptk ?_
    refine rdH 5 λK hK=>?_
    go_simp
    refine hK.out _ _ ?hSfalse (λhHeld=>?_)
    case hSfalse=>exact(World.cell?_alloc_lt _ _ ⟨w.heap.size,7,none⟩ (by have:=HX2.out.lt;exact this)).trans (by obtain⟨_,_,_,_,_,_,_,d7,_⟩:=zf HX2.out;exact d7)
    clear hK K
    try refine ptk ?_
    refine rdH 6 λK hK=>?_
    refine jp rfl (.tmp 36) (.tmp 39) 22 rfl base 5 i0 Tryz.underlying22 hi0 hz0 hz1 hz2 v2 (l++bs) rfl (HO2.out.alloc _) _ _ [UInt8.ofNat f.wt] _ _ rfl rfl (RdB.row (Row.new w2 _ _) hbl.symm (Nat.lt_succ_self _)) (by rw[List.length_append];simp;omega) (by simp;omega) (λv3 w3 hO3 hF3 hN3=>?_)
    rw[List.append_assoc] at hO3
    have HP:Hid (y5 w base v (l++(bs++[UInt8.ofNat f.wt])) (.returned v3) w3):=⟨v3,rfl,hO3,(HF2.out.alloc _).next HN2.out hF3,HN2.out.trans hN3 (by have:=HF2.out.size;simp;omega)⟩
    have hX3:=hF3.row (λe=>by
     rcases HNd.out.own e with h1|h1
     ·have:=HVL.out _ h1;omega
     ·have h2:w0.heap.size≤w.heap.size:=h1;omega) (HX2.out.alloc _)
    obtain⟨_,_,_,_,_,_,_,d7,_⟩:=zf hX3
    refine hK.out _ _ d7 (λhHeld=>?_)
    clear hK K hO3 hF3 hN3 hX3 d7
    try refine ptk ?_
    refine tkH 7 ?_
    refine dnH ?_
    go_wp2_with fail
    go_ret
    exact HP.out
   ·go_simp
    have hX1:Row (w0.alloc (.cells #[.int .u8 ((f.wt:Nat):Int)] 5)).drew w.heap.size 66 (f.fm dA dc sA sc).c:=Row.alloc HX.out _
    obtain⟨_,_,_,_,_,_,_,d7,_⟩:=zf hX1
    have hL1:Row (w0.alloc (.cells #[.int .u8 ((f.wt:Nat):Int)] 5)).drew w0.heap.size 5 #[.int .u8 ((f.wt:Nat):Int)]:=Row.new w0 _ _
    have hO1:Bo (w0.alloc (.cells #[.int .u8 ((f.wt:Nat):Int)] 5)).drew base 5 v l:=OwS.alloc HO1.out _
    have hF1:Fs (ob v) w (w0.alloc (.cells #[.int .u8 ((f.wt:Nat):Int)] 5)).drew:=(HF1.out.alloc _).drewN 1
    have hs2:w0.heap.size<(w0.alloc (.cells #[.int .u8 ((f.wt:Nat):Int)] 5)).drew.heap.size:=hL1.lt
    refine hK.out _ _ d7 (λhHeld=>?_)
    clear hK K d7
    have HX1:=z2w hX1
    have HL1:=z2w hL1
    have HOa:=z2w hO1
    have HFa:=z2w hF1
    clear hX1 hL1 hO1 hF1 hHeld
    generalize (w0.alloc (.cells #[.int .u8 ((f.wt:Nat):Int)] 5)).drew=w1 at *
    have hHeld:w1.cell? ⟨w.heap.size,7,none⟩=some (Value.int .u8 ((f.wt:Nat):Int)):=by obtain⟨_,_,_,_,_,_,_,d7,_⟩:=zf HX1.out;exact d7
    try refine ptk ?_
    refine rdH 2 λK hK=>?_
    go_simp
    go_at_call 149
    refine(hpn w1 HOa.out (by omega)).mono ?_
    rintro e w2 ⟨v2,rfl,hO2,hF2,hN2⟩
    have HF2:Hid (Fs (ob v) w w2):=HFa.out.trans hF2 λ_ _ h=>h
    have HNd:=z2w hN2
    have HN2:Hid (Nx w v v2):=(Nx.refl w v).trans hN2 HFa.out.size
    have HO2:=z2w hO2
    have HX2:=z2w (hF2.row (λe=>by have:=HVL.out _ e;omega) HX1.out)
    have HL2:=z2w (hF2.row (λe=>by have:=HVL.out _ e;omega) HL1.out)
    have hb2:base≤w2.heap.size:=by have:=HF2.out.size;omega
    obtain⟨_,_,_,_,_,_,_,d7,_⟩:=zf HX2.out
    refine hK.out _ _ d7 (λhHeld=>?_)
    clear hK K hO2 hF2 hN2 d7 hpn
    try refine ptk ?_
    refine rdH 6 λK hK=>?_
    refine jp rfl (.tmp 36) (.tmp 39) 22 rfl base 5 i0 Tryz.underlying22 hi0 hz0 hz1 hz2 v2 (l++bs) rfl HO2.out _ _ [UInt8.ofNat f.wt] _ _ rfl rfl (RdB.row HL2.out hbl.symm HL2.out.lt) (by rw[List.length_append];simp;omega) hb2 (λv3 w3 hO3 hF3 hN3=>?_)
    rw[List.append_assoc] at hO3
    have HP:Hid (y5 w base v (l++(bs++[UInt8.ofNat f.wt])) (.returned v3) w3):=⟨v3,rfl,hO3,HF2.out.next HN2.out hF3,HN2.out.trans hN3 HF2.out.size⟩
    have hX3:=hF3.row (λe=>by
     rcases HNd.out.own e with h1|h1
     ·have:=HVL.out _ h1;omega
     ·omega) HX2.out
    obtain⟨_,_,_,_,_,_,_,d7,_⟩:=zf hX3
    refine hK.out _ _ d7 (λhHeld=>?_)
    clear hK K hO3 hF3 hN3 hX3 d7
    try refine ptk ?_
    refine tkH 7 ?_
    refine dnH ?_
    go_wp2_with fail
    go_ret
    exact HP.out
  |true=>
   rw[show zw f=be 4 (f.oth+2147483648)++[UInt8.ofNat f.wt] by unfold zw;rw[if_pos hl1,hal];rfl]
   have hpn:=λ(W:World) (h1:Bo W base 5 v l) (h2:base≤W.heap.size)=>qp (n:=(f.oth+2147483648)) (by omega) h1 h2 (by omega)
   have hor:bits .or .u32 ((f.oth:Nat):Int) 2147483648=((f.oth+2147483648:Nat):Int):=Y9 hoth
   have c0':_=some (Value.int .u8 ((f.ty:Nat):Int)):=c0
   have c1':_=some (Value.int .u8 ((f.fl:Nat):Int)):=c1
   have c6':_=some (Value.int .u32 ((f.oth:Nat):Int)):=c6
   have c7':(w.alloc (.cells (f.fm dA dc sA sc).c 66)).drew.cell? ⟨w.heap.size,7,none⟩=some (Value.int .u8 ((f.wt:Nat):Int)):=c7
   have c8':_=some (Value.bool f.al):=c8
   rw[hal] at c8'
   have hwt:f.wt<256:=hk.wt
   rw[h] at c0'
   have hbl:byc [UInt8.ofNat f.wt]=[.int .u8 ((f.wt:Nat):Int)]:=by
    simp only[byc,List.map_cons,List.map_nil,Qx]
    rw[show ((f.wt:Nat):Int)%256=((f.wt:Nat):Int) by omega]
   have hbl1:(be 4 (f.oth+2147483648)).length=4:=zl 4 _
   generalize hbe:be 4 (f.oth+2147483648)=bs at *
   clear c0 c1 c5 c6 c7 c8 c9 c10 h hwin hbe hal hl1
   go_enter Tryz.func151,Tryz.ntmps151
   go_wp2_with fail
   generalize w.alloc (.cells (f.fm dA dc sA sc).c 66)=w0 at *
   refine wp_region_held_drew (S:=λw'=>w'.cell? ⟨w.heap.size,7,none⟩=some (Value.int .u8 ((f.wt:Nat):Int))) (by kernel_rfl) c7' (λhHeld=>?_)
   refine tkH 0 ?_
   refine tkH 1 ?_
   refine tkH 3 ?_
   refine tkH 4 ?_
   refine wpAnyH_ready (rs:=[2,5]) (by kernel_rfl) (by simp) ?_
   refine AllReadyH.cons rfl (λK hK=>?_) (AllReadyH.cons rfl (λK hK=>?_) AllReadyH.nil)
   ·go_simp
    go_at_call 149
    refine(hpn w0.drew (show Bo w0.drew base 5 v l from HO1.out) (show base≤w0.drew.heap.size by show base≤w0.heap.size;omega)).mono ?_
    rintro e w2 ⟨v2,rfl,hO2,hF2,hN2⟩
    have HF2:Hid (Fs (ob v) w w2):=(HF1.out.drewN 1).trans hF2 λ_ _ h=>h
    have HNd:=z2w hN2
    have HN2:Hid (Nx w v v2):=(Nx.refl w v).trans hN2 HF1.out.size
    have HO2:=z2w hO2
    have HX2:=z2w (hF2.row (λe=>by have:=HVL.out _ e;omega) (show Row w0.drew _ _ _ from HX.out))
    have hb2:base≤w2.heap.size:=by have:=HF2.out.size;omega
    obtain⟨_,_,_,_,_,_,_,d7,_⟩:=zf HX2.out
    have d7':w2.cell? ⟨w.heap.size,7,none⟩=some (Value.int .u8 ((f.wt:Nat):Int)):=d7
    refine hK.out _ _ d7' (λhHeld=>?_)
    clear hK K hO2 hF2 hN2 d7 d7' hpn
    try refine ptk ?_
    refine rdH 5 λK hK=>?_
    go_simp
    refine hK.out _ _ ?hStrue (λhHeld=>?_)
    case hStrue=>exact(World.cell?_alloc_lt _ _ ⟨w.heap.size,7,none⟩ (by have:=HX2.out.lt;exact this)).trans (by obtain⟨_,_,_,_,_,_,_,d7,_⟩:=zf HX2.out;exact d7)
    clear hK K
    try refine ptk ?_
    refine rdH 6 λK hK=>?_
    refine jp rfl (.tmp 36) (.tmp 39) 22 rfl base 5 i0 Tryz.underlying22 hi0 hz0 hz1 hz2 v2 (l++bs) rfl (HO2.out.alloc _) _ _ [UInt8.ofNat f.wt] _ _ rfl rfl (RdB.row (Row.new w2 _ _) hbl.symm (Nat.lt_succ_self _)) (by rw[List.length_append];simp;omega) (by simp;omega) (λv3 w3 hO3 hF3 hN3=>?_)
    rw[List.append_assoc] at hO3
    have HP:Hid (y5 w base v (l++(bs++[UInt8.ofNat f.wt])) (.returned v3) w3):=⟨v3,rfl,hO3,(HF2.out.alloc _).next HN2.out hF3,HN2.out.trans hN3 (by have:=HF2.out.size;simp;omega)⟩
    have hX3:=hF3.row (λe=>by
     rcases HNd.out.own e with h1|h1
     ·have:=HVL.out _ h1;omega
     ·have h2:w0.heap.size≤w.heap.size:=h1;omega) (HX2.out.alloc _)
    obtain⟨_,_,_,_,_,_,_,d7,_⟩:=zf hX3
    refine hK.out _ _ d7 (λhHeld=>?_)
    clear hK K hO3 hF3 hN3 hX3 d7
    try refine ptk ?_
    refine tkH 7 ?_
    refine dnH ?_
    go_wp2_with fail
    go_ret
    exact HP.out
   ·go_simp
    have hX1:Row (w0.alloc (.cells #[.int .u8 ((f.wt:Nat):Int)] 5)).drew w.heap.size 66 (f.fm dA dc sA sc).c:=Row.alloc HX.out _
    obtain⟨_,_,_,_,_,_,_,d7,_⟩:=zf hX1
    have hL1:Row (w0.alloc (.cells #[.int .u8 ((f.wt:Nat):Int)] 5)).drew w0.heap.size 5 #[.int .u8 ((f.wt:Nat):Int)]:=Row.new w0 _ _
    have hO1:Bo (w0.alloc (.cells #[.int .u8 ((f.wt:Nat):Int)] 5)).drew base 5 v l:=OwS.alloc HO1.out _
    have hF1:Fs (ob v) w (w0.alloc (.cells #[.int .u8 ((f.wt:Nat):Int)] 5)).drew:=(HF1.out.alloc _).drewN 1
    have hs2:w0.heap.size<(w0.alloc (.cells #[.int .u8 ((f.wt:Nat):Int)] 5)).drew.heap.size:=hL1.lt
    refine hK.out _ _ d7 (λhHeld=>?_)
    clear hK K d7
    have HX1:=z2w hX1
    have HL1:=z2w hL1
    have HOa:=z2w hO1
    have HFa:=z2w hF1
    clear hX1 hL1 hO1 hF1 hHeld
    generalize (w0.alloc (.cells #[.int .u8 ((f.wt:Nat):Int)] 5)).drew=w1 at *
    have hHeld:w1.cell? ⟨w.heap.size,7,none⟩=some (Value.int .u8 ((f.wt:Nat):Int)):=by obtain⟨_,_,_,_,_,_,_,d7,_⟩:=zf HX1.out;exact d7
    try refine ptk ?_
    refine rdH 2 λK hK=>?_
    go_simp
    go_at_call 149
    refine(hpn w1 HOa.out (by omega)).mono ?_
    rintro e w2 ⟨v2,rfl,hO2,hF2,hN2⟩
    have HF2:Hid (Fs (ob v) w w2):=HFa.out.trans hF2 λ_ _ h=>h
    have HNd:=z2w hN2
    have HN2:Hid (Nx w v v2):=(Nx.refl w v).trans hN2 HFa.out.size
    have HO2:=z2w hO2
    have HX2:=z2w (hF2.row (λe=>by have:=HVL.out _ e;omega) HX1.out)
    have HL2:=z2w (hF2.row (λe=>by have:=HVL.out _ e;omega) HL1.out)
    have hb2:base≤w2.heap.size:=by have:=HF2.out.size;omega
    obtain⟨_,_,_,_,_,_,_,d7,_⟩:=zf HX2.out
    refine hK.out _ _ d7 (λhHeld=>?_)
    clear hK K hO2 hF2 hN2 d7 hpn
    try refine ptk ?_
    refine rdH 6 λK hK=>?_
    refine jp rfl (.tmp 36) (.tmp 39) 22 rfl base 5 i0 Tryz.underlying22 hi0 hz0 hz1 hz2 v2 (l++bs) rfl HO2.out _ _ [UInt8.ofNat f.wt] _ _ rfl rfl (RdB.row HL2.out hbl.symm HL2.out.lt) (by rw[List.length_append];simp;omega) hb2 (λv3 w3 hO3 hF3 hN3=>?_)
    rw[List.append_assoc] at hO3
    have HP:Hid (y5 w base v (l++(bs++[UInt8.ofNat f.wt])) (.returned v3) w3):=⟨v3,rfl,hO3,HF2.out.next HN2.out hF3,HN2.out.trans hN3 HF2.out.size⟩
    have hX3:=hF3.row (λe=>by
     rcases HNd.out.own e with h1|h1
     ·have:=HVL.out _ h1;omega
     ·omega) HX2.out
    obtain⟨_,_,_,_,_,_,_,d7,_⟩:=zf hX3
    refine hK.out _ _ d7 (λhHeld=>?_)
    clear hK K hO3 hF3 hN3 hX3 d7
    try refine ptk ?_
    refine tkH 7 ?_
    refine dnH ?_
    go_wp2_with fail
    go_ret
    exact HP.out
 ·rw[show zw f=be 4 f.code by unfold zw;rw[if_neg (by rw[Z6 (by omega)];simp),if_pos h]]
  have hpn:=λ(W:World) (h1:Bo W base 5 v l) (h2:base≤W.heap.size)=>qp hk.code h1 h2 (by omega)
  have c0':_=some (Value.int .u8 ((f.ty:Nat):Int)):=c0
  have c5':_=some (Value.int .u32 ((f.code:Nat):Int)):=c5
  rw[h] at c0'
  clear c0 c5 h32 h
  go_enter Tryz.func151,Tryz.ntmps151
  go_wp2_with fail
  refine(hpn _ HO1.out (by omega)).mono ?_
  rintro e w2 ⟨v2,rfl,hO2,hF2,hN2⟩
  have HP:Hid (y5 w base v (l++be 4 f.code) (.returned v2) w2):=⟨v2,rfl,hO2,HF1.out.trans hF2 λ_ _ h=>h,(Nx.refl w v).trans hN2 HF1.out.size⟩
  clear hO2 hF2 hN2 hpn
  go_wp2
  go_ret
  exact HP.out
 ·rw[show zw f=qt f.sets by unfold zw;rw[if_neg (by rw[Z6 (by omega)];simp),if_neg (by omega),if_pos h]]
  exact zio f h hk.sets hn hR hRb HOw hbase hl
 ·rw[show zw f=be 4 f.oth by unfold zw;rw[if_neg (by rw[Z6 (by omega)];simp),if_neg (by omega),if_neg (by omega),if_pos h]]
  have hpn:=λ(W:World) (h1:Bo W base 5 v l) (h2:base≤W.heap.size)=>qp (n:=f.oth) (by omega) h1 h2 (by omega)
  have c0':_=some (Value.int .u8 ((f.ty:Nat):Int)):=c0
  have c6':_=some (Value.int .u32 ((f.oth:Nat):Int)):=c6
  rw[h] at c0'
  clear c0 c6 h32 h
  go_enter Tryz.func151,Tryz.ntmps151
  go_wp2_with fail
  refine(hpn _ HO1.out (by omega)).mono ?_
  rintro e w2 ⟨v2,rfl,hO2,hF2,hN2⟩
  have HP:Hid (y5 w base v (l++be 4 f.oth) (.returned v2) w2):=⟨v2,rfl,hO2,HF1.out.trans hF2 λ_ _ h=>h,(Nx.refl w v).trans hN2 HF1.out.size⟩
  clear hO2 hF2 hN2 hpn
  go_wp2
  go_ret
  exact HP.out
 ·rw[Q4 (Z6 (by omega)) (by omega),List.append_nil]
  have c0':_=some (Value.int .u8 ((f.ty:Nat):Int)):=c0
  rw[h] at c0'
  clear c0 h32 h
  go_enter Tryz.func151,Tryz.ntmps151
  go_wp2
  go_ret
  exact⟨v,rfl,HO1.out,HF1.out,Nx.refl w v⟩
 ·rw[show zw f=be 4 f.oth++be 4 f.code by unfold zw;rw[if_neg (by rw[Z6 (by omega)];simp),if_neg (by omega),if_neg (by omega),if_neg (by omega),if_pos h]]
  have hpn:=λ(W:World) (h1:Bo W base 5 v l) (h2:base≤W.heap.size)=>qp (n:=f.oth) (by omega) h1 h2 (by omega)
  have hpn2:=λ(W:World) (v:Value) (h1:Bo W base 5 v (l++be 4 f.oth)) (h2:base≤W.heap.size)=>qp (n:=f.code) hk.code h1 h2 (by rw[List.length_append,zl];omega)
  have c0':_=some (Value.int .u8 ((f.ty:Nat):Int)):=c0
  have c6':_=some (Value.int .u32 ((f.oth:Nat):Int)):=c6
  rw[h] at c0'
  clear c0 c6 h32 h
  go_enter Tryz.func151,Tryz.ntmps151
  go_wp2_with fail
  refine(hpn _ HO1.out (by omega)).mono ?_
  rintro e w2 ⟨v2,rfl,hO2,hF2,hN2⟩
  have hX2:=hF2.row (λe=>by have:=HVL.out _ e;omega) HX.out
  obtain⟨_,_,_,_,_,d5,_⟩:=zf hX2
  have d5':_=some (Value.int .u32 ((f.code:Nat):Int)):=d5
  have HF2:Hid (Fs (ob v) w w2):=HF1.out.trans hF2 λ_ _ h=>h
  have HN2:=z2w ((Nx.refl w v).trans hN2 HF1.out.size)
  have hb2:base≤w2.heap.size:=by have:=HF2.out.size;omega
  have HP2:=z2w (hpn2 w2 v2 hO2 hb2)
  clear hO2 hF2 hN2 hpn hX2 d5 c5 hpn2
  go_wp2_with fail
  refine HP2.out.mono ?_
  rintro e w3 ⟨v3,rfl,hO3,hF3,hN3⟩
  rw[List.append_assoc] at hO3
  have HP:Hid (y5 w base v (l++(be 4 f.oth++be 4 f.code)) (.returned v3) w3):=⟨v3,rfl,hO3,HF2.out.next HN2.out hF3,HN2.out.trans hN3 HF2.out.size⟩
  clear hO3 hF3 hN3
  go_wp2
  go_ret
  exact HP.out
 ·rw[show zw f=be 4 f.win by unfold zw;rw[if_neg (by rw[Z6 (by omega)];simp),if_neg (by omega),if_neg (by omega),if_neg (by omega),if_neg (by omega),if_pos h]]
  have hpn:=λ(W:World) (h1:Bo W base 5 v l) (h2:base≤W.heap.size)=>qp (n:=f.win) (by omega) h1 h2 (by omega)
  have c0':_=some (Value.int .u8 ((f.ty:Nat):Int)):=c0
  have c9':_=some (Value.int .u32 ((f.win:Nat):Int)):=c9
  rw[h] at c0'
  clear c0 c9 h32 h
  go_enter Tryz.func151,Tryz.ntmps151
  go_wp2_with fail
  refine(hpn _ HO1.out (by omega)).mono ?_
  rintro e w2 ⟨v2,rfl,hO2,hF2,hN2⟩
  have HP:Hid (y5 w base v (l++be 4 f.win) (.returned v2) w2):=⟨v2,rfl,hO2,HF1.out.trans hF2 λ_ _ h=>h,(Nx.refl w v).trans hN2 HF1.out.size⟩
  clear hO2 hF2 hN2 hpn
  go_wp2
  go_ret
  exact HP.out
 ·rw[Q4 (Z6 (by omega)) (by omega),List.append_nil]
  have c0':_=some (Value.int .u8 ((f.ty:Nat):Int)):=c0
  rw[h] at c0'
  clear c0 h32 h
  go_enter Tryz.func151,Tryz.ntmps151
  go_wp2
  go_ret
  exact⟨v,rfl,HO1.out,HF1.out,Nx.refl w v⟩
 ·rw[Q4 (Z6 (by omega)) (by omega),List.append_nil]
  have c0':_=some (Value.int .u8 ((f.ty:Nat):Int)):=c0
  obtain⟨e0,e1,e2,e3,e4,e5,e6,e7,e8,e9⟩:=Qd h
  clear c0 h32 h
  go_enter Tryz.func151,Tryz.ntmps151
  go_wp2
  go_ret
  exact⟨v,rfl,HO1.out,HF1.out,Nx.refl w v⟩
end
end Go.Proofs.YtooaajnkiokpnaaGreatDoor
