/-
  Part of a proof: A side's Send, by its contract. Conditions: those that each theorem names.
-/
import Derived.Test.YtooaajnkiokpnaaGreatDoorQ01
import Derived.Test.YtooaajnkiokpnaaGreatDoorQ24
import Derived.Deep.RegionHeld3
import Derived.Test.YtooaajnkiokpnaaGreatDoorQ04
import Derived.Test.YtooaajnkiokpnaaGreatDoorQ06
import Derived.Test.YtooaajnkiokpnaaGreatDoorQ07
namespace Go.Proofs.YtooaajnkiokpnaaGreatDoor
open Go.RowKit Go.WideShapes
set_option maxHeartbeats 4000000
set_option maxRecDepth 100000
section
theorem RdS.settG{w:World}{S:Nat→Prop}{A:Option Addr}{L:List (Nat × Nat)}(h:RdS w S A (enl zbk L)){i:Nat}(hi:i<L.length):∃b q,A=some ⟨b,q,none⟩∧S b∧
  w.cell? ⟨b,q+i*2,none⟩=some (.int .u16 (L[i].1:Int))∧w.cell? ⟨b,q+i*2+1,none⟩=some (.int .u32 (L[i].2:Int)):=by
 have hne:enl zbk L≠[]:=by
  intro e
  have:=yi zbx L
  rw[e] at this
  simp at this
  omega
 obtain⟨b,q,hA,hb,hcl⟩:=h hne
 have h0:=hcl (i*2+0) _ (by rw[Q7 zbx hi (by omega)];rfl)
 have h1:=hcl (i*2+1) _ (by rw[Q7 zbx hi (by omega)];rfl)
 exact⟨b,q,hA,hb,by simpa using h0,by rw[Nat.add_assoc];exact h1⟩
theorem zkd(w:World):(binOp .neq 29 (.agg (zk 0 0)) (.agg #[.int .u8 0,.int .u32 0])).run Tryz.prog w=.ok (.bool false) w:=zol 0 0 0 0 w
theorem zjf{n:Nat}(h:n≠0)(w:World):(binOp .neq 29 (.agg (zk 1 n)) (.agg #[.int .u8 0,.int .u32 0])).run Tryz.prog w=.ok (.bool true) w:=by
 refine(zol 1 n 0 0 w).trans ?_
 rw[decide_eq_false h]
 rfl
theorem ftz:zk 0 0=#[.int .u8 0,.int .u32 0]:=rfl
attribute [local irreducible] St.c zk sec
structure ApI(w wr:World)(b6:Nat)(s o:St):Prop where
 r2:Row wr w.heap.size 59 s.c
 r4:Row wr (w.heap.size+1) 59 zS.c
 r5:Row wr (w.heap.size+2) 29 (zk 0 0)
 r6:Row wr b6 59 o.c
 hb:Below w.heap.size w wr
 h6:b6=w.heap.size+3
theorem ApI.below{w wr w':World}{b6:Nat}{s o:St}(h:ApI w wr b6 s o)(hb:Below wr.heap.size wr w'):ApI w w' b6 s o:=
 ⟨h.r2.below hb h.r2.lt,h.r4.below hb h.r4.lt,h.r5.below hb h.r5.lt,h.r6.below hb h.r6.lt,h.hb.trans (hb.mono h.hb.size),h.h6⟩
theorem ApI.set{w wr:World}{b6:Nat}{s o:St}(h:ApI w wr b6 s o)(o':St):ApI w (wr.setRow b6 o'.c) b6 s o':=by
 have:=h.h6
 exact⟨h.r2.setRow' (by omega) _,h.r4.setRow' (by omega) _,h.r5.setRow' (by omega) _,h.r6.setRow _,zd h.hb _ _ (by omega),h.h6⟩
theorem Xu{w:World}{g:Nat}{t:TypeId}{cs:Array Value}(h:Row w g t cs)(n:Nat):Row (w.drewN n) g t cs:=h
def zmz(w:World)(r:St × Nat)(e:Ending)(w':World):Prop:=e=.returned (.tuple #[.agg r.1.c,.agg (zk (if r.2=0 then 0 else 1) r.2)])∧Below w.heap.size w w'
theorem ze3(s:St){A:Option Addr}{c:Nat}{l:List (Nat × Nat)}{w:World}(hr:RdS w (·<w.heap.size) A (enl zbk l))(hl:l.length≤1000000000000) :
  Calls Tryz.prog 123 #[.agg s.c,.slice A l.length c] w (zmz w (apN s s l)):=by
 have hz:zS.c=#[.int .u32 0,.bool false,.int .u32 0,.int .u32 0,.int .u32 0,.int .u32 0,.bool false]:=by unfold St.c;rfl
 have hfz:=ftz
 have H2:Hid (Row (((w.alloc (.cells s.c 59)).alloc (.cells #[.int .u32 0,.bool false,.int .u32 0,.int .u32 0,.int .u32 0,.int .u32 0,.bool false] 59)).alloc (.cells #[.int .u8 0,.int .u32 0] 29)) w.heap.size 59 s.c):=((Row.new w _ _).alloc _).alloc _
 have H4:Hid (Row (((w.alloc (.cells s.c 59)).alloc (.cells #[.int .u32 0,.bool false,.int .u32 0,.int .u32 0,.int .u32 0,.int .u32 0,.bool false] 59)).alloc (.cells #[.int .u8 0,.int .u32 0] 29)) (w.heap.size+1) 59 zS.c):=by show Row _ _ _ _;rw[hz];exact(Row.made _ _ _ (by simp)).alloc _
 have H5:Hid (Row (((w.alloc (.cells s.c 59)).alloc (.cells #[.int .u32 0,.bool false,.int .u32 0,.int .u32 0,.int .u32 0,.int .u32 0,.bool false] 59)).alloc (.cells #[.int .u8 0,.int .u32 0] 29)) (w.heap.size+2) 29 (zk 0 0)):=by show Row _ _ _ _;rw[hfz];exact Row.made _ _ _ (by simp)
 have HB:Hid (Below w.heap.size w (((w.alloc (.cells s.c 59)).alloc (.cells #[.int .u32 0,.bool false,.int .u32 0,.int .u32 0,.int .u32 0,.int .u32 0,.bool false] 59)).alloc (.cells #[.int .u8 0,.int .u32 0] 29))):=(((Below.refl _ _).alloc (Nat.le_refl _) _).alloc (by simp) _).alloc (by simp;omega) _
 have HZ:Hid ((((w.alloc (.cells s.c 59)).alloc (.cells #[.int .u32 0,.bool false,.int .u32 0,.int .u32 0,.int .u32 0,.int .u32 0,.bool false] 59)).alloc (.cells #[.int .u8 0,.int .u32 0] 29)).heap.size=w.heap.size+3):=by show _=_;simp
 have HR:=z2w hr
 have HFZ:=z2w hfz
 have HZC:=z2w hz
 clear hr hfz hz
 go_enter Tryz.func123,Tryz.ntmps123
 go_upto_region 1 with fail
 generalize (((w.alloc (.cells s.c 59)).alloc (.cells #[.int .u32 0,.bool false,.int .u32 0,.int .u32 0,.int .u32 0,.int .u32 0,.bool false] 59)).alloc (.cells #[.int .u8 0,.int .u32 0] 29))=w1 at *
 have H6:Hid (Row (w1.alloc (.cells #[.int .u32 0,.bool false,.int .u32 0,.int .u32 0,.int .u32 0,.int .u32 0,.bool false] 59)) w1.heap.size 59 zS.c):=by show Row _ _ _ _;rw[HZC.out];exact Row.new w1 _ _
 go_upto_region 2 with (first|(refine zj rfl _ rfl rfl H2.out (St.ok _) ?_)|(refine ze (cs:=s.c) rfl _ _ rfl rfl rfl H6.out (St.sz _ _) (St.ok _) ?_))
 have HI:Hid (ApI w ((w1.alloc (.cells #[.int .u32 0,.bool false,.int .u32 0,.int .u32 0,.int .u32 0,.int .u32 0,.bool false] 59)).setRow w1.heap.size s.c) w1.heap.size s s):=by
  have hzz:=HZ.out
  have h1:Below w1.heap.size w1 (w1.alloc (.cells #[.int .u32 0,.bool false,.int .u32 0,.int .u32 0,.int .u32 0,.int .u32 0,.bool false] 59)):=(Below.refl _ _).alloc (Nat.le_refl _) _
  exact⟨(H2.out.below h1 H2.out.lt).setRow' (by omega) _,(H4.out.below h1 H4.out.lt).setRow' (by omega) _,(H5.out.below h1 H5.out.lt).setRow' (by omega) _,H6.out.setRow _,zd (HB.out.trans (h1.mono HB.out.size)) _ _ (by omega),hzz⟩
 generalize (w1.alloc (.cells #[.int .u32 0,.bool false,.int .u32 0,.int .u32 0,.int .u32 0,.int .u32 0,.bool false] 59)).setRow w1.heap.size s.c=w2 at *
 generalize w1.heap.size=b6 at *
 clear H2 H4 H5 H6 HB HZ HZC
 have HA:Hid (apN s s l=apN s s (l.drop 0)):=by show _=_;rw[List.drop_zero]
 go_upto_region 3 with fail
 go_loopw [13] (λi wr=>∃(k:Nat) (o:St),k≤l.length∧i=.int .i64 k∧Hid (ApI w wr b6 s o)∧Hid (apN s s l=apN s o (l.drop k)))
  (λi _=>l.length-(intOf i).toNat)
 case atStart=>exact⟨0,s,Nat.zero_le _,rfl,HI,HA⟩
 case round=>
  clear HI HA
  obtain⟨k,o,hk,rfl,HI,HA⟩:=hrel
  by_cases hlt:k<l.length
  ·obtain⟨b,q,rfl,hb,f0,f1⟩:=(HR.out.below HI.out.hb).settG hlt
   have k0:(0:Int)≤(k:Int):=by omega
   have k1:(k:Int)<(l.length:Int):=by omega
   have HS:=z2w (@zsi s o l k hlt)
   have HX:=z2w (@zq1 s o l k hlt)
   generalize l[k].1=i at *
   generalize l[k].2=v at *
   have hck:=zn0 o i v
   have hst:=zwm o i v
   have HC:Hid (Row (wr.alloc (.cells #[.int .u16 (i:Int),.int .u32 (v:Int)] 164)) wr.heap.size 164 (sec i v)):=by show Row _ _ _ _;have:=Row.new wr 164 (sec i v);unfold sec at this ⊢;exact this
   have HI1:=z2w (HI.out.below ((Below.refl _ _).alloc (Nat.le_refl wr.heap.size) (.cells #[.int .u16 (i:Int),.int .u32 (v:Int)] 164)))
   clear HI hb
   go_upto_region 5 with fail
   generalize wr.alloc (.cells #[.int .u16 (i:Int),.int .u32 (v:Int)] 164)=w3 at *
   generalize wr.heap.size=b8 at *
   clear f0 f1
   go_wp2_with (first|(refine zj rfl _ rfl rfl HI1.out.r6 (St.ok _) ?_)|(refine zj rfl _ rfl rfl HC.out (zcd _ _) ?_))
   refine(hck _).mono ?_
   rintro e w4 ⟨rfl,hb4⟩
   have HI4:=z2w (HI1.out.below hb4)
   have HC4:=z2w (HC.out.below hb4 HC.out.lt)
   have HI5:=z2w (HI4.out.below ((Below.refl _ _).alloc (Nat.le_refl w4.heap.size) (.cells #[.int .u8 0,.int .u32 0] 29)))
   have HC5:=z2w (HC4.out.alloc (.cells #[.int .u8 0,.int .u32 0] 29))
   have HF5:Hid (Row (w4.alloc (.cells #[.int .u8 0,.int .u32 0] 29)) w4.heap.size 29 (zk 0 0)):=by show Row _ _ _ _;rw[HFZ.out];exact Row.new w4 _ _
   have HL5:Hid (b8<w4.heap.size∧b6<w4.heap.size∧w.heap.size+2<w4.heap.size):=⟨HC4.out.lt,HI4.out.r6.lt,HI4.out.r5.lt⟩
   clear hb4 hck HI1 HC HI4 HC4
   by_cases hn:wrN o i v=0
   ·have HSn:=z2w (HS.out hn)
    have hne:=zkd
    rw[hn]
    clear HS HX hn
    have HI6:Hid (ApI w ((w4.alloc (.cells #[.int .u8 0,.int .u32 0] 29)).setRow w4.heap.size (zk 0 0)) b6 s o):=by
     have:=HI5.out;have h5:=HL5.out;have h6:=this.h6
     exact⟨this.r2.setRow' (by omega) _,this.r4.setRow' (by omega) _,this.r5.setRow' (by omega) _,this.r6.setRow' (by omega) _,zd this.hb _ _ (by omega),h6⟩
    have HC6:=z2w (HC5.out.setRow' (k:=w4.heap.size) (by have:=HL5.out;omega) (zk 0 0))
    have HF6:=z2w (HF5.out.setRow (zk 0 0))
    clear HI5 HC5 
    go_upto_region 6 with (refine ze (cs:=zk 0 0) rfl _ _ rfl rfl rfl HF5.out (Zi _ _ _ _) (qv _ _) ?_)
    clear HF5
    generalize (w4.alloc (.cells #[.int .u8 0,.int .u32 0] 29)).setRow w4.heap.size (zk 0 0)=w6 at *
    generalize w4.heap.size=b9 at *
    go_wp2_with (first|(refine zj rfl _ rfl rfl HF6.out (qv _ _) ?_)|(refine zj rfl _ rfl rfl HI6.out.r6 (St.ok _) ?_)|(refine zj rfl _ rfl rfl HC6.out (zcd _ _) ?_))
    refine(hst _).mono ?_
    rintro e w7 ⟨rfl,hb7⟩
    have HI7:=z2w (HI6.out.below hb7)
    have HI8:=z2w (HI7.out.set (stN o i v))
    clear hb7 hst HI6 HC6 HF6 hne
    go_wp2_with (refine ze (cs:=(stN o i v).c) rfl _ _ rfl rfl rfl HI7.out.r6 (St.sz _ _) (St.ok _) ?_)
    go_roundw
    case rel=>exact⟨k+1,stN o i v,by omega,by go_num,HI8,HA.out.trans HSn.out⟩
    case measure=>simp[intOf];omega
   ·have HXn:=z2w (HX.out hn)
    have hne:=zjf hn
    have HN:=z2w hn
    rw[if_neg hn]
    clear HS HX hn
    generalize wrN o i v=n at *
    have HI6:Hid (ApI w ((w4.alloc (.cells #[.int .u8 0,.int .u32 0] 29)).setRow w4.heap.size (zk 1 n)) b6 s o):=by
     have:=HI5.out;have h5:=HL5.out;have h6:=this.h6
     exact⟨this.r2.setRow' (by omega) _,this.r4.setRow' (by omega) _,this.r5.setRow' (by omega) _,this.r6.setRow' (by omega) _,zd this.hb _ _ (by omega),h6⟩
    have HF6:=z2w (HF5.out.setRow (zk 1 n))
    clear HI5 HC5 
    go_upto_region 6 with (refine ze (cs:=zk 1 n) rfl _ _ rfl rfl rfl HF5.out (Zi _ _ _ _) (qv _ _) ?_)
    clear HF5
    generalize (w4.alloc (.cells #[.int .u8 0,.int .u32 0] 29)).setRow w4.heap.size (zk 1 n)=w6 at *
    generalize w4.heap.size=b9 at *
    go_wp2_with (refine zj rfl _ rfl rfl HF6.out (qv _ _) ?_)
    refine wp_region_held_drew (S:=λw'=>Row w' w.heap.size 59 s.c∧Row w' b9 29 (zk 1 n)) (by kernel_rfl) ⟨HI6.out.r2,HF6.out⟩ (λhHeld=>?_)
    refine tkY 0 rfl (Q0 (by rfl) _ rfl rfl (St.ok _) (λ_ hSw=>hSw.1)) ?_
    refine tkY 1 rfl (Q0 (by rfl) _ rfl rfl (qv _ _) (λ_ hSw=>hSw.2)) ?_
    refine rdH 2 λK hK=>?_
    refine qq (cs:=s.c) rfl (.tmp 4) (.tmp 23) rfl rfl rfl (Xu HI6.out.r4 1) (St.sz _ _) (St.ok _) ?_
    refine hK.out _ _ ⟨hHeld.1.setRow' (by omega) _,hHeld.2.setRow' (by have:=HL5.out;omega) _⟩ (λhHeld=>?_)
    clear hK K
    try refine ptk ?_
    refine rdH 3 λK hK=>?_
    refine qq (cs:=zk 1 n) rfl (.tmp 5) (.tmp 24) rfl rfl rfl ((Xu HI6.out.r5 1).setRow' (k:=w.heap.size+1) (by omega) s.c) (Zi _ _ _ _) (qv _ _) ?_
    refine hK.out _ _ ⟨hHeld.1.setRow' (by omega) _,hHeld.2.setRow' (by have:=HL5.out;omega) _⟩ (λhHeld=>?_)
    clear hK K
    try refine ptk ?_
    refine dnH ?_
    go_wp2_with fail
    exact bodyPost_ret (Yl rfl _ rfl (((Xu HI6.out.r4 1).setRow s.c).setRow' (k:=w.heap.size+2) (by omega) (zk 1 n)) (St.ok _) rfl (((Xu HI6.out.r5 1).setRow' (k:=w.heap.size+1) (by omega) s.c).setRow (zk 1 n)) (qv _ _)) rfl
     ⟨by rw[HA.out,HXn.out,if_neg HN.out],zd (zd (qu HI6.out.hb 1) _ _ (by omega)) _ _ (by omega)⟩
  ·have HE:Hid (apN s o (l.drop k)=(o,0)):=by show _=_;rw[show k=l.length by omega];exact zup
   have HR4:=z2w (HI.out.r4.setRow o.c)
   have HR5:=z2w (HI.out.r5.setRow' (k:=w.heap.size+1) (by omega) o.c)
   go_wp2_with (first|(refine zj rfl _ rfl rfl HI.out.r6 (St.ok _) ?_)|(refine ze (cs:=o.c) rfl _ _ rfl rfl rfl HI.out.r4 (St.sz _ _) (St.ok _) ?_)|(refine ze (cs:=zk 0 0) rfl _ _ rfl rfl (by rw[HFZ.out];rfl) HR5.out (Zi _ _ _ _) (qv _ _) ?_))
   exact bodyPost_ret (Yl rfl _ rfl (HR4.out.setRow' (k:=w.heap.size+2) (by omega) (zk 0 0)) (St.ok _) rfl (HR5.out.setRow (zk 0 0)) (qv _ _)) rfl
    ⟨by rw[HA.out,HE.out];rfl,zd (zd HI.out.hb _ _ (by omega)) _ _ (by omega)⟩
end
section
theorem zc:zS.c=#[.int .u32 0,.bool false,.int .u32 0,.int .u32 0,.int .u32 0,.int .u32 0,.bool false]:=rfl
theorem zfz(w:World)(x:St)(s c:Nat):∃w' ,((((w.alloc (.cells #[.int .u32 0,.bool false,.int .u32 0,.int .u32 0,.int .u32 0,.int .u32 0,.bool false] 59)).alloc (.cells #[.int .u8 0,.int .u32 0] 29)).setRow w.heap.size x.c).setRow (w.heap.size+1) (zk s c))=w'∧
  Row ((w.alloc (.cells #[.int .u32 0,.bool false,.int .u32 0,.int .u32 0,.int .u32 0,.int .u32 0,.bool false] 59)).alloc (.cells #[.int .u8 0,.int .u32 0] 29)) w.heap.size 59 zS.c∧
  Row (((w.alloc (.cells #[.int .u32 0,.bool false,.int .u32 0,.int .u32 0,.int .u32 0,.int .u32 0,.bool false] 59)).alloc (.cells #[.int .u8 0,.int .u32 0] 29)).setRow w.heap.size x.c) (w.heap.size+1) 29 (zk 0 0)∧
  Row w' w.heap.size 59 x.c∧Row w' (w.heap.size+1) 29 (zk s c)∧Below w.heap.size w w'∧w'.heap.size=w.heap.size+2:=by
 have h1:Row ((w.alloc (.cells #[.int .u32 0,.bool false,.int .u32 0,.int .u32 0,.int .u32 0,.int .u32 0,.bool false] 59)).alloc (.cells #[.int .u8 0,.int .u32 0] 29)) w.heap.size 59 zS.c:=by rw[zc];exact(Row.new w _ _).alloc _
 have h2:Row ((w.alloc (.cells #[.int .u32 0,.bool false,.int .u32 0,.int .u32 0,.int .u32 0,.int .u32 0,.bool false] 59)).alloc (.cells #[.int .u8 0,.int .u32 0] 29)) (w.heap.size+1) 29 (zk 0 0):=by rw[ftz];exact Row.made _ _ _ (by simp)
 have hb:Below w.heap.size w ((w.alloc (.cells #[.int .u32 0,.bool false,.int .u32 0,.int .u32 0,.int .u32 0,.int .u32 0,.bool false] 59)).alloc (.cells #[.int .u8 0,.int .u32 0] 29)):=((Below.refl _ _).alloc (Nat.le_refl _) _).alloc (by simp) _
 exact⟨_,rfl,h1,h2.setRow' (by omega) _,(h1.setRow _).setRow' (by omega) _,(h2.setRow' (by omega) _).setRow _,zd (zd hb _ _ (by omega)) _ _ (by omega),by simp⟩
attribute [local irreducible] St.c zk sec
end
section
def sdc(n:St)(v:Value):Array Value:=#[.int .u32 n.tb,.bool n.pu,.int .u32 n.st,.int .u32 n.wn,.int .u32 n.fr,.int .u32 n.hd,.bool n.co,v]
structure Sd(w:World)(base g:Nat)(n:St)(v:Value)(L:List St):Prop where
 row:Row w g 157 (sdc n v)
 own:OwS w base 59 7 v L.length (enl St.l L)
 gl:base≤g
 ne:v.ownBlock≠some g
def sb(g:Nat)(v:Value):Nat→Prop:=λk=>k=g∨ob v k
section
variable {w w':World}{base g:Nat}{n:St}{v:Value}{L:List St}
theorem Sd.keep(h:Sd w base g n v L)(h1:w'.heap[g]?=w.heap[g]?)(h2:∀k,v.ownBlock=some k→w'.heap[k]?=w.heap[k]?):Sd w' base g n v L:=⟨h1.trans h.row,h.own.keep h2,h.gl,h.ne⟩
theorem Sd.below(h:Sd w base g n v L)(hb:Below w.heap.size w w'):Sd w' base g n v L:=h.keep (hb.block g h.row.lt) λk hk=>hb.block k (h.own.lt k hk).2
theorem Sd.fs{S:Nat→Prop}(h:Sd w base g n v L)(hf:Fs S w w')(hS:∀k,sb g v k→¬S k):Sd w' base g n v L:=
 h.keep (hf.block g h.row.lt (hS g (.inl rfl))) λk hk=>hf.block k (h.own.lt k hk).2 (hS k (.inr hk))
theorem Sd.lts(h:Sd w base g n v L):∀k,sb g v k→base≤k∧k<w.heap.size:=λk hk=>by
 rcases hk with rfl|hk
 ·exact⟨h.gl,h.row.lt⟩
 ·exact h.own.lt k hk
theorem Sd.now(h:Sd w base g n v L):w.rangeAt g 0 n.c.toList:=h.row.range 0 n.c.toList (λj u hj=>by
 rw[Nat.zero_add]
 have hj':n.l[j]?=some u:=hj
 have hlt:j<7:=(List.getElem?_eq_some_iff.1 hj').1
 match j,hlt with
 |0,_=>exact hj'
 |1,_=>exact hj'
 |2,_=>exact hj'
 |3,_=>exact hj'
 |4,_=>exact hj'
 |5,_=>exact hj'
 |6,_=>exact hj')
theorem Sd.sent(h:Sd w base g n v L):w.cell? ⟨g,7,none⟩=some v:=h.row.cell rfl
theorem Sd.shape(h:Sd w base g n v L):∃A c,v=.slice A L.length c:=by
 obtain⟨A,c,h1,_⟩:=h.own.shape
 exact⟨A,c,h1⟩
end
theorem zdu(x:St):x.l.length=7:=rfl
attribute [local irreducible] St.c zk sec
theorem za5(w:World):Calls Tryz.prog 53 #[] w λe w'=>∃g,e=.returned (.pointer (some ⟨g,0,none⟩))∧Sd w' w.heap.size g ju (.slice none 0 0) []∧Below w.heap.size w w':=by
 go_enter Tryz.func53,Tryz.ntmps53
 go_wp2_with fail
 refine(Y6 _).mono ?_
 rintro e w1 ⟨rfl,hb1⟩
 have HB:=z2w hb1
 clear hb1
 go_wp2_with (refine zn rfl 157 _ rfl (sdc ju (.slice none 0 0)) (by kernel_rfl) ?_)
 go_ret
 exact⟨w1.heap.size,rfl,⟨Row.new w1 _ _,OwS.nil,HB.out.size,by simp[Value.ownBlock]⟩,HB.out.alloc HB.out.size _⟩
theorem zek{w:World}{base g:Nat}{n:St}{v:Value}{L:List St}(h:Sd w base g n v L):Calls Tryz.prog 160 #[.pointer (some ⟨g,0,none⟩)] w λe w'=>e=.returned (.int .i64 L.length)∧w'=w:=by
 obtain⟨A,c,rfl⟩:=h.shape
 have hc:=h.sent
 clear h
 go_enter Tryz.func160,Tryz.ntmps160
 go_wp2
 go_ret
 exact⟨rfl,rfl⟩
theorem zuw{w:World}{base g:Nat}{n:St}{v:Value}{L:List St}(h:Sd w base g n v L):Calls Tryz.prog 161 #[.pointer (some ⟨g,0,none⟩)] w λe w'=>e=.returned (.agg n.c)∧Below w.heap.size w w':=by
 have hz:zS.c=#[.int .u32 0,.bool false,.int .u32 0,.int .u32 0,.int .u32 0,.int .u32 0,.bool false]:=by unfold St.c;rfl
 have HR:Hid (Row (w.alloc (.cells #[.int .u32 0,.bool false,.int .u32 0,.int .u32 0,.int .u32 0,.int .u32 0,.bool false] 59)) w.heap.size 59 zS.c):=by show Row _ _ _ _;rw[hz];exact Row.new w _ _
 have hb:Below w.heap.size w (w.alloc (.cells #[.int .u32 0,.bool false,.int .u32 0,.int .u32 0,.int .u32 0,.int .u32 0,.bool false] 59)):=(Below.refl _ _).alloc (Nat.le_refl _) _
 have HN:=z2w (h.below hb).now
 have HB:=z2w hb
 clear hz hb h
 go_enter Tryz.func161,Tryz.ntmps161
 go_wp2_with (first|(refine xn (cs:=n.c) rfl _ rfl rfl HN.out (St.ok _) ?_)|(refine ze (cs:=n.c) rfl _ _ rfl rfl rfl HR.out (St.sz _ _) (St.ok _) ?_))
 exact bodyPost_ret (qn rfl _ rfl (HR.out.setRow _) (St.ok _)) rfl ⟨rfl,zd HB.out _ _ (Nat.le_refl _)⟩
theorem ztn{w:World}{base g:Nat}{n:St}{v:Value}{L:List St}(h:Sd w base g n v L)(hl:L.length≤1000000):Calls Tryz.prog 124 #[.pointer (some ⟨g,0,none⟩)] w λe w'=>e=.returned (.agg (xz n L).c)∧Below w.heap.size w w':=by
 have hz:zS.c=#[.int .u32 0,.bool false,.int .u32 0,.int .u32 0,.int .u32 0,.int .u32 0,.bool false]:=by unfold St.c;rfl
 have HR:Hid (Row (w.alloc (.cells #[.int .u32 0,.bool false,.int .u32 0,.int .u32 0,.int .u32 0,.int .u32 0,.bool false] 59)) w.heap.size 59 zS.c):=by show Row _ _ _ _;rw[hz];exact Row.new w _ _
 have hb:Below w.heap.size w (w.alloc (.cells #[.int .u32 0,.bool false,.int .u32 0,.int .u32 0,.int .u32 0,.int .u32 0,.bool false] 59)):=(Below.refl _ _).alloc (Nat.le_refl _) _
 have H:=z2w (h.below hb)
 have HB:=z2w hb
 clear hz hb h
 by_cases h0:L.length=0
 ·have hL:L=[]:=List.eq_nil_of_length_eq_zero h0
  subst hL
  clear h0
  rw[zo9]
  go_enter Tryz.func124,Tryz.ntmps124
  go_wp2_with fail
  refine(zek H.out).mono ?_
  rintro e w1 ⟨rfl,rfl⟩
  go_wp2_with fail
  refine(zuw H.out).mono ?_
  rintro e w1 ⟨rfl,hb1⟩
  have HR1:=z2w (HR.out.below hb1 HR.out.lt)
  have HB1:=z2w (HB.out.trans (hb1.mono HB.out.size))
  clear hb1 HR HB H
  go_wp2_with (refine ze (cs:=n.c) rfl _ _ rfl rfl rfl HR1.out (St.sz _ _) (St.ok _) ?_)
  exact bodyPost_ret (qn rfl _ rfl (HR1.out.setRow _) (St.ok _)) rfl ⟨rfl,zd HB1.out _ _ (Nat.le_refl _)⟩
 ·have hpos:0<L.length:=by omega
  rw[zq3 n hpos]
  obtain⟨A,c,rfl⟩:=H.out.shape
  have hs:=H.out.sent
  obtain⟨b,q,rfl,_,hrg⟩:=H.out.own.reads.elem zdu (i:=L.length-1) (by omega) (by omega)
  have hw:=zek H.out
  generalize L[L.length-1]'(by omega)=x at *
  generalize L.length=m at *
  obtain⟨k,rfl⟩:∃k,m=k+1:=⟨m-1,by omega⟩
  rw[Nat.add_sub_cancel] at hrg
  rw[←St.cl x] at hrg
  have HX:=z2w hrg
  have e0:(((k+1:Nat):Int) == 0)=false:=Xo (k+1) 0 |>.trans (decide_eq_false (by omega))
  have e1:(((k+1:Nat):Int)-1)=(k:Int):=by omega
  have k0:(0:Int)≤(k:Int):=by omega
  have k1:(k:Int)<((k+1:Nat):Int):=by omega
  clear hrg h0 hpos H
  go_enter Tryz.func124,Tryz.ntmps124
  go_wp2_with fail
  refine hw.mono ?_
  rintro e w1 ⟨rfl,rfl⟩
  go_wp2_with (first|(refine xn (cs:=x.c) rfl _ rfl rfl HX.out (St.ok _) ?_)|(refine ze (cs:=x.c) rfl _ _ rfl rfl rfl HR.out (St.sz _ _) (St.ok _) ?_))
  exact bodyPost_ret (qn rfl _ rfl (HR.out.setRow _) (St.ok _)) rfl ⟨rfl,zd HB.out _ _ (Nat.le_refl _)⟩
end
section
theorem zj0(w:World):Row ((w.alloc (.cells #[.int .u32 0,.bool false,.int .u32 0,.int .u32 0,.int .u32 0,.int .u32 0,.bool false] 59)).alloc (.cells #[.int .u8 0,.int .u32 0] 29)) w.heap.size 59 zS.c∧
  Row ((w.alloc (.cells #[.int .u32 0,.bool false,.int .u32 0,.int .u32 0,.int .u32 0,.int .u32 0,.bool false] 59)).alloc (.cells #[.int .u8 0,.int .u32 0] 29)) (w.heap.size+1) 29 (zk 0 0)∧
  Below w.heap.size w ((w.alloc (.cells #[.int .u32 0,.bool false,.int .u32 0,.int .u32 0,.int .u32 0,.int .u32 0,.bool false] 59)).alloc (.cells #[.int .u8 0,.int .u32 0] 29))∧
  ((w.alloc (.cells #[.int .u32 0,.bool false,.int .u32 0,.int .u32 0,.int .u32 0,.int .u32 0,.bool false] 59)).alloc (.cells #[.int .u8 0,.int .u32 0] 29)).heap.size=w.heap.size+2:=by
 refine⟨by rw[zc];exact(Row.new w _ _).alloc _,by rw[ftz];exact Row.made _ _ _ (by simp),((Below.refl _ _).alloc (Nat.le_refl _) _).alloc (by simp) _,by simp⟩
theorem znp(w:World):Row (w.alloc (.cells #[.int .u8 0,.int .u32 0] 29)) w.heap.size 29 (zk 0 0)∧Below w.heap.size w (w.alloc (.cells #[.int .u8 0,.int .u32 0] 29))∧(w.alloc (.cells #[.int .u8 0,.int .u32 0] 29)).heap.size=w.heap.size+1:=by
 refine⟨by rw[ftz];exact Row.new w _ _,(Below.refl _ _).alloc (Nat.le_refl _) _,by simp⟩
attribute [local irreducible] St.c zk sec
end
section
theorem zaz{P:Program}{t:TypeId}{z:Value}{n b:Nat}(h:(P.info? t).map (λi=>(i.zero,i.size,i.bytes))=some (some z,n,b)):∃i,P.info? t=some i∧i.zero=some z∧i.size=n∧i.bytes=b:=by
 cases hi:P.info? t with
 |none=>rw[hi] at h;simp at h
 |some i=>rw[hi] at h;simp at h;exact⟨i,rfl,h.1,h.2.1,h.2.2⟩
theorem zi9:(Tryz.prog.info? 59).map (λi=>(i.zero,i.size,i.bytes))=some (some (.agg #[.int .u32 0,.bool false,.int .u32 0,.int .u32 0,.int .u32 0,.int .u32 0,.bool false]),7,28):=by kernel_rfl
theorem z1b(x:St)(w:World):(Instr.buildSlice 155 1 #[(0,.agg x.c)]).run Tryz.prog w=.ok (.slice (some ⟨w.heap.size,0,none⟩) 1 1) (w.alloc (.cells x.c 59)):=by unfold St.c;kernel_rfl
def Jw(n:St)(L:List St)(l:List (Nat × Nat)):List St × Nat:=if (apN (xz n L) (xz n L) l).2=0 then (L++[(apN (xz n L) (xz n L) l).1],0) else (L,1)
def zro(w:World)(base g:Nat)(n:St)(v:Value)(r:List St × Nat)(e:Ending)(w':World):Prop:=
 e=.returned (.agg (zk r.2 r.2))∧∃v',Sd w' base g n v' r.1∧Fs (sb g v) w w'∧Nx w v v'
attribute [local irreducible] St.c zk sec
theorem za2{w:World}{base g:Nat}{n:St}{v:Value}{L:List St}(h:Sd w base g n v L)(hbase:base≤w.heap.size)(hl:L.length≤100000){A:Option Addr}{c:Nat}{l:List (Nat × Nat)}(hr:RdS w (·<w.heap.size) A (enl zbk l))(hln:l.length≤1000000000000) :
  Calls Tryz.prog 89 #[.pointer (some ⟨g,0,none⟩),.slice A l.length c] w (zro w base g n v (Jw n L l)):=by
 obtain⟨r2,rb,rs⟩:=znp w
 have H4:=z2w r2
 have HB:=z2w rb
 have H:=z2w (h.below rb)
 have HR:=z2w (hr.up rb)
 have hgl:=h.row.lt
 have HLT:=z2w h.lts
 have hap:=λ(W:World) (h:RdS W (·<W.heap.size) A (enl zbk l))=>ze3 (xz n L) (c:=c) h hln
 have HS:Hid (Jw n L l=if (apN (xz n L) (xz n L) l).2=0 then (L++[(apN (xz n L) (xz n L) l).1],0) else (L,1)):=rfl
 unfold zmz at hap
 clear h hr r2 rb rs
 generalize (apN (xz n L) (xz n L) l).1=x at *
 generalize (apN (xz n L) (xz n L) l).2=m at *
 generalize l.length=len at *
 go_enter Tryz.func89,Tryz.ntmps89
 go_upto_region 1 with fail
 generalize w.alloc (.cells #[.int .u8 0,.int .u32 0] 29)=w1 at *
 go_wp2_with fail
 refine(ztn H.out (by omega)).mono ?_
 rintro e w2 ⟨rfl,hb2⟩
 have H2:=z2w (H.out.below hb2)
 have H42:=z2w (H4.out.below hb2 H4.out.lt)
 have HB2:=z2w (HB.out.trans (hb2.mono HB.out.size))
 have HR2:=z2w (HR.out.up hb2)
 clear hb2 H H4 HB HR
 go_wp2_with fail
 refine(hap _ HR2.out).mono ?_
 rintro e w3 ⟨rfl,hb3⟩
 have key:(m=0∧True)∨¬m=0:=by by_cases h0:m=0;exact .inl ⟨h0,trivial⟩;exact .inr h0
 rcases key with ⟨h0,_⟩|h0
 ·rw[if_pos h0] at HS ⊢
  obtain⟨w4,hw4,t1,t2,t3,t4,t5,t6⟩:=zfz w3 x 0 m
  rw[h0] at hw4 t4 ⊢
  have T1:=z2w t1
  have T2:=z2w t2
  have T3:=z2w t3
  have T4:=z2w t4
  have T7:=z2w hw4
  have hb4:=hb3.trans (t5.mono hb3.size)
  have H5:=z2w (H2.out.below hb4)
  have H45:=z2w (H42.out.below hb4 H42.out.lt)
  have HB5:=z2w (HB2.out.trans (hb4.mono HB2.out.size))
  have hp3:g<w3.heap.size∧w.heap.size<w3.heap.size:=by
   have h1:=H2.out.row.lt;have h2:=H42.out.lt;have:=hb3.size
   omega
  have hne:=zkd
  clear t1 t2 t3 t4 t5 t6 hw4 hb3 hb4 H2 H42 HB2 HR2 hap h0
  go_upto_region 4 with (first|(refine ze (cs:=x.c) rfl _ _ rfl rfl rfl T1.out (St.sz _ _) (St.ok _) ?_)|(refine ze (cs:=zk 0 0) rfl _ _ rfl rfl rfl T2.out (Zi _ _ _ _) (qv _ _) ?_))
  rw[T7.out]
  clear T1 T2 T7
  generalize w3.heap.size=p at *
  obtain⟨A1,c1,rfl⟩:=H5.out.shape
  have hsn:=H5.out.sent
  go_wp2_with (refine zj rfl _ rfl rfl T4.out (qv _ _) ?_)
  refine qg 10 (λw'=>w'.cell? ⟨g,7,none⟩=some (.slice A1 L.length c1)∧Row w' p 59 x.c) (by kernel_rfl) ⟨hsn,T3.out⟩ (λhHeld=>?_)
  refine tkE 0 ?_
  refine tkE 1 ?_
  refine tkE 2 ?_
  refine tkE 3 ?_
  refine tkE 4 ?_
  refine zht 5 rfl (Q0 (by rfl) _ rfl rfl (St.ok _) (λ_ hSw=>hSw.2)) ?_
  refine zm (i:=6) (by kernel_rfl) rfl (λK hK=>?_)
  refine zgw (z1b x) rfl (.tmp 26) rfl rfl ?_
  have hal:Below w4.heap.size w4 (w4.drew.alloc (.cells x.c 59)):=((Below.refl _ _).drew).alloc (Nat.le_refl _) _
  have H6:=z2w (H5.out.below hal)
  have H46:=z2w (H45.out.below hal H45.out.lt)
  have HB6:=z2w (HB5.out.trans (hal.mono HB5.out.size))
  have m0:=H6.out.sent
  have m1:Row (w4.drew.alloc (.cells x.c 59)) p 59 x.c:=T3.out.below hal T3.out.lt
  have HN6:=z2w (Row.new w4.drew 59 x.c)
  have F46:=z2w (T4.out.below hal T4.out.lt)
  have hq:w4.drew.heap.size=w4.heap.size:=rfl
  rw[hq] at HN6 ⊢
  have hq2:(w4.drew.alloc (.cells x.c 59)).heap.size=w4.heap.size+1:=by simp
  have HQ:=z2w hq2
  have hpl:p<w4.heap.size:=T3.out.lt
  clear hal hq hq2 H5 H45 HB5 T3 T4 hsn hHeld
  refine hK.out _ _ ⟨m0,m1⟩ (λhHeld=>?_)
  clear hK K hHeld
  try refine ptk ?_
  generalize w4.drew.alloc (.cells x.c 59)=w5 at *
  generalize w4.heap.size=q at *
  have hHeld:w5.cell? ⟨g,7,none⟩=some (.slice A1 L.length c1)∧Row w5 p 59 x.c:=⟨m0,m1⟩
  obtain⟨i0,hi0,hz0,hz1,hz2⟩:=zaz zi9
  refine zm (i:=7) (by kernel_rfl) rfl (λK hK=>?_)
  refine Zr rfl (.tmp 25) (.tmp 27) 155 rfl base 59 i0 _ 7 28 Tryz.underlying155 hi0 hz0 hz1 hz2 rfl (.slice A1 L.length c1) L.length (enl St.l L) rfl H6.out.own ⟨q,0,none⟩ 1 1 x.l rfl rfl (λj u hj=>by rw[add_plain,Nat.zero_add];exact HN6.out.cell (by rw[←St.cl] at hj;simpa using hj)) (St.one x) (by omega) (by simp only[maxLen];omega) (by omega) (by have:=HQ.out;have:=HB6.out.size;omega) ?_
  intro A6 c6 w6 hO6 hg6 hb6
  have hgn:some g≠(Value.slice A1 L.length c1).ownBlock:=λe=>H6.out.ne e.symm
  have hpo:∀k,(Value.slice A1 L.length c1).ownBlock=some k→k<w.heap.size:=λk hk=>(HLT.out k (.inr hk)).2
  have hrow:Row w6 g 157 (sdc n (.slice A1 L.length c1)):=(hg6.block g H6.out.row.lt hgn).trans H6.out.row
  have n0:=hrow.cell (j:=7) rfl
  have n1:Row w6 p 59 x.c:=(hg6.block p m1.lt (λe=>by have:=hpo p e.symm;omega)).trans m1
  have z7:=hrow.thawed 7
  have hne6:(Value.slice A6 (L.length+1) c6).ownBlock≠some g:=by
   rcases hb6 with e|e
   ·rw[e];exact H6.out.ne
   ·rw[e]
    have:=H6.out.row.lt
    intro e
    injection e with e
    omega
  have H7:Hid (Sd (w6.setCell ⟨g,7,none⟩ (.slice A6 (L.length+1) c6)) base g n (.slice A6 (L.length+1) c6) (L++[x])):=by
   refine⟨hrow.stored 7 _,?_,H6.out.gl,hne6⟩
   have:=hO6.setCell (a:=⟨g,7,none⟩) hne6 (.slice A6 (L.length+1) c6)
   rw[List.length_append,jq,Zb]
   exact this
  have HF7:Hid (Fs (sb g (.slice A1 L.length c1)) w (w6.setCell ⟨g,7,none⟩ (.slice A6 (L.length+1) c6))):=
   ((Fs.of_below HB6.out).trans (S':=ob (.slice A1 L.length c1)) (Fs.of_grown hg6) (λk _ h=>.inr h)).setCell (λ_=>.inl rfl) 7 _
  have HX7:Hid (Nx w (.slice A1 L.length c1) (.slice A6 (L.length+1) c6)):=by
   rcases hb6 with e|e
   ·exact .inl e
   ·refine .inr λk hk=>?_
    rw[e] at hk
    injection hk with hk
    have:=HB6.out.size
    have:=HQ.out
    omega
  have HFAR:Hid (∀k,sb g (.slice A6 (L.length+1) c6) k→¬k=w.heap.size):=by
   show ∀_ _,_
   intro k hk e
   rcases hk with rfl|hk
   ·omega
   ·rcases hb6 with e6|e6
    ·have:=hpo k (e6.symm.trans hk)
     omega
    ·have h6:some k=some w5.heap.size:=hk.symm.trans e6
     injection h6 with h6
     have:=HQ.out
     omega
  have H47:Hid (Row (w6.setCell ⟨g,7,none⟩ (.slice A6 (L.length+1) c6)) w.heap.size 29 (zk 0 0)):=
   Row.stored' ((hg6.block w.heap.size H46.out.lt (λe=>by have:=hpo _ e.symm;omega)).trans H46.out) (by show w.heap.size≠g;omega) _
  clear hO6 hg6 hb6 hgn hpo hne6 H6 H46 HB6 HN6 F46 HQ HLT hi0 hz0 hz1 hz2
  refine hK.out _ _ ⟨n0,n1⟩ (λhHeld=>?_)
  clear hK K
  try refine ptk ?_
  refine tkE 8 ?_
  refine tkE 9 ?_
  refine qh (by kernel_rfl) rfl (by kernel_rfl) (λK hK=>?_)
  go_simp
  refine hK.out _ _ ?_
  clear hK K hHeld m0 m1 n0 n1 z7 hrow
  try refine ptk ?_
  generalize w6.setCell ⟨g,7,none⟩ (.slice A6 (L.length+1) c6)=w7 at *
  have hzf:zk 0 0=#[.int .u8 0,.int .u32 0]:=by unfold zk;rfl
  have HZF:=z2w hzf
  clear hzf
  go_wp2_with (refine ze (cs:=zk 0 0) rfl _ _ rfl rfl (by rw[HZF.out];rfl) H47.out (Zi _ _ _ _) (qv _ _) ?_)
  refine bodyPost_ret (qn rfl _ rfl (H47.out.setRow _) (qv _ _)) rfl ?_
  have hwl:=hgl
  rw[HS.out]
  exact⟨rfl,_,H7.out.fs (S:=λk=>k=w.heap.size) (Fs.setRow (S:=λk=>k=w.heap.size) (Fs.refl _ w7) (g:=w.heap.size) (λ_=>rfl) (zk 0 0)) HFAR.out,(HF7.out.setRow (g:=w.heap.size) (λh=>by omega) (zk 0 0)),HX7.out⟩
 ·rw[if_neg h0] at HS ⊢
  obtain⟨w4,hw4,t1,t2,t3,t4,t5,t6⟩:=zfz w3 x 1 m
  have T1:=z2w t1
  have T2:=z2w t2
  have T4:=z2w t4
  have T7:=z2w hw4
  have hb4:=hb3.trans (t5.mono hb3.size)
  have H5:=z2w (H2.out.below hb4)
  have H45:=z2w (H42.out.below hb4 H42.out.lt)
  have HB5:=z2w (HB2.out.trans (hb4.mono HB2.out.size))
  have hne:=zjf h0
  clear t1 t2 t3 t4 t5 t6 hw4 hb3 hb4 H2 H42 HB2 HR2 hap h0
  go_upto_region 4 with (first|(refine ze (cs:=x.c) rfl _ _ rfl rfl rfl T1.out (St.sz _ _) (St.ok _) ?_)|(refine ze (cs:=zk 1 m) rfl _ _ rfl rfl rfl T2.out (Zi _ _ _ _) (qv _ _) ?_))
  rw[T7.out]
  clear T1 T2 T7
  generalize w3.heap.size=p at *
  go_wp2_with (refine zj rfl _ rfl rfl T4.out (qv _ _) ?_)
  refine(Z1 1 _).mono ?_
  rintro e w5 ⟨rfl,hb5⟩
  have H6:=z2w (H5.out.below hb5)
  have H46:=z2w (H45.out.below hb5 H45.out.lt)
  have HB6:=z2w (HB5.out.trans (hb5.mono HB5.out.size))
  clear hb5 H5 H45 HB5 T4 hne
  go_wp2_with (refine ze (cs:=zk 1 1) rfl _ _ rfl rfl rfl H46.out (Zi _ _ _ _) (qv _ _) ?_)
  refine bodyPost_ret (qn rfl _ rfl (H46.out.setRow _) (qv _ _)) rfl ?_
  rw[HS.out]
  exact⟨rfl,v,H6.out.fs (S:=λk=>k=w.heap.size) (Fs.setRow (S:=λk=>k=w.heap.size) (Fs.refl _ w5) (g:=w.heap.size) (λ_=>rfl) (zk 1 1)) (λk hk e=>by have:=HLT.out k hk;omega),(Fs.of_below HB6.out).setRow (g:=w.heap.size) (λh=>by omega) (zk 1 1),Nx.refl _ _⟩
end
end Go.Proofs.YtooaajnkiokpnaaGreatDoor
