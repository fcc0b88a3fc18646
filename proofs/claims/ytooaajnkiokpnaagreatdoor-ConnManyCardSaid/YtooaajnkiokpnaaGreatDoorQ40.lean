/-
  Part of a proof: hpack's decoder: NewDecoder, Table, Get, by their contracts. Conditions: those that each theorem names.
-/
import Derived.Test.YtooaajnkiokpnaaGreatDoorQ01
import Derived.Test.YtooaajnkiokpnaaGreatDoorQ34
import Derived.Test.YtooaajnkiokpnaaGreatDoorQ21
import Derived.Test.YtooaajnkiokpnaaGreatDoorQ06
import Derived.Lib.MinMax
import Derived.Test.YtooaajnkiokpnaaGreatDoorQ37
namespace Go.Proofs.YtooaajnkiokpnaaGreatDoor
open Go.RowKit Go.WideShapes
set_option maxHeartbeats 8000000
set_option maxRecDepth 100000
section
def fmz:Fm:=⟨0,0,0,none,0,0,0,0,0,0,false,0,none,0,0⟩
theorem zhx:#[Value.int .u8 0,.int .u8 0,.int .u32 0,.slice none 0 0,.int .i64 0,.int .u32 0,.int .u32 0,.int .u8 0,.bool false,.int .u32 0,.slice none 0 0]=fmz.c:=by unfold Fm.c;rfl
theorem ztu(x y:Fm):x.c.size=y.c.size:=by unfold Fm.c;rfl
theorem zxy(w:World)(x:Fm):∃w',(w.alloc (.cells z2x 66)).setRow w.heap.size x.c=w'∧
  Row (w.alloc (.cells z2x 66)) w.heap.size 66 fmz.c∧Row w' w.heap.size 66 x.c∧Below w.heap.size w w'∧w'.heap.size=w.heap.size+1:=by
 have h1:Row (w.alloc (.cells #[.int .u8 0,.int .u8 0,.int .u32 0,.slice none 0 0,.int .i64 0,.int .u32 0,.int .u32 0,.int .u8 0,.bool false,.int .u32 0,.slice none 0 0] 66)) w.heap.size 66 fmz.c:=by rw[zhx];exact Row.new w _ _
 exact⟨_,rfl,h1,h1.setRow _,zd ((Below.refl _ _).alloc (Nat.le_refl _) _) _ _ (by omega),by simp⟩
def Fm.ownd(x:Fm)(A:Option Addr)(n c:Nat):Fm:={ x with dA:=A,dn:=n,dc:=c }
end
section
theorem zsm(c:Nat)(w:World):(binOp .eql 22 (.slice none 0 c) (.slice none 0 0)).run Tryz.prog w=.ok (.bool true) w:=by kernel_rfl
theorem zw0(a:Addr)(n c:Nat)(w:World):(binOp .eql 22 (.slice (some a) n c) (.slice none 0 0)).run Tryz.prog w=.ok (.bool false) w:=by kernel_rfl
theorem zim{B:Nat}{A:Option Addr}{c:Nat}{l:List UInt8}{w:World}(hr:RdB w B A l)(hB:B≤w.heap.size)(hl:l.length≤549755813888) :
  Calls Tryz.prog 115 #[.slice A l.length c] w λe w'=>(∃v,e=.returned v∧Bo w' w.heap.size 5 v l)∧Below w.heap.size w w':=by
 obtain⟨i0,hi0,hz0,hz1,hz2⟩:=Ye zgz
 cases A with
 |none=>
  have hn:l=[]:=by
   rcases List.eq_nil_or_concat l with h0|⟨x,y,h0⟩
   ·exact h0
   ·obtain⟨g,o,e,_⟩:=hr (by rw[h0];simp)
    cases e
  subst hn
  clear hr
  have hnil:=zsm c
  go_enter Tryz.func115,Tryz.ntmps115
  go_wp2
  go_ret
  exact⟨⟨_,rfl,Bo.nil⟩,Below.refl _ _⟩
 |some a=>
  have hO1:Hid (Bo (w.alloc (.cells #[] 5)) w.heap.size 5 (.slice (some ⟨w.heap.size,0,none⟩) 0 0) []):=OwS.lit w 5 1 0 #[] (by simp) (by simp[maxLen]) (Nat.le_refl _)
  have HR:=z2w (hr.alloc hB (.cells #[] 5))
  clear hr
  have hnil:=zw0 a l.length c
  go_enter Tryz.func115,Tryz.ntmps115
  go_wp2_with (at_builtin;go_loud (refine qx rfl (.tmp 5) (.tmp 6) 22 rfl w.heap.size 5 i0 Tryz.underlying22 hi0 hz0 hz1 hz2 (.slice (some ⟨w.heap.size,0,none⟩) 0 0) [] rfl hO1.out B (some a) l _ _ rfl rfl HR.out (by simp;omega) (by simp) ?_;intro v2 w2 hO2 hF2 hN2))
  go_ret
  rw[List.nil_append] at hO2
  exact⟨⟨_,rfl,hO2⟩,((Below.refl w.heap.size w).alloc (Nat.le_refl _) _).trans (hF2.below (λk hk _=>by have:=(OwS.lt hO1.out k hk).1;omega) (by simp))⟩
structure FrL(w:World)(base:Nat)(v:Value)(E:List Be):Prop where
 own:OwS w base 66 11 v E.length (enl bec E)
 ins:∀e∈E,RdS w (λk=>base≤k∧k<w.heap.size∧¬ob v k) e.x.dA (byc e.d)
section
variable {w w':World}{base:Nat}{v:Value}{E:List Be}
theorem FrL.nil(w:World)(base:Nat):FrL w base (.slice none 0 0) []:=⟨OwS.nil,λe he=>(by cases he)⟩
theorem FrL.mono{base':Nat}(h:FrL w base v E)(hb:base'≤base):FrL w base' v E:=⟨OwS.mono h.own hb,λe he=>(h.ins e he).imp λ_ hk _=>⟨Nat.le_trans hb hk.1,hk.2⟩⟩
end
theorem zw3:(Tryz.prog.info? 66).map (λi=>(i.zero,i.size,i.bytes))=some (some (.agg z2x),11,80):=by kernel_rfl
theorem z1a(x:Fm)(w:World):(Instr.buildSlice 129 1 #[(0,.agg x.c)]).run Tryz.prog w=.ok (.slice (some ⟨w.heap.size,0,none⟩) 1 1) (w.alloc (.cells x.c 66)):=by unfold Fm.c;kernel_rfl
theorem zxo(e:Be):∀u∈bec e,u.oneCell'=true:=by
 intro u hu
 have h:=(zlr e.x).o
 rw[Array.all_eq_true_iff_forall_mem] at h
 exact h u (by simpa [bec] using hu)
theorem ziw{ops:Array Oper}{rest:List Oper}{o:Oper}{a:Act}{w:World}{Q:Exit→Act→World→Prop}(hgd:o.guard=none)(s x:Operand)(ho:o.op=.call { callee:=.builtin .append,args:=#[s,x],argTypes:=#[129,129] })
  {base:Nat} {v:Value} {E:List Be} (hs:a.eval s=v) (h:FrL w base v E) (e:Be) (q:Nat) (hx:a.eval x=.slice (some ⟨q,0,none⟩) 1 1) (hq:Row w q 66 e.x.c)
  (he:RdS w (λk=>base≤k∧k<w.heap.size∧¬ob v k) e.x.dA (byc e.d)) (hL:E.length≤1000000) (hbase:base≤w.heap.size)
  (hk:∀v' w',FrL w' base v' (E++[e])→Fs (ob v) w w'→Nx w v v'→wpList Tryz.prog ops Q rest (a.put o.dst v') w'):wpList Tryz.prog ops Q (o :: rest) a w:=by
 obtain⟨i0,hi0,hz0,hz1,hz2⟩:=Ye zw3
 refine zav hgd s x 129 ho base 66 i0 _ 11 80 Tryz.underlying129 hi0 hz0 hz1 hz2 rfl v E.length (enl bec E) hs h.own ⟨q,0,none⟩ 1 1 (bec e) hx (by rw[zja]) (λj u hj=>by
  rw[add_plain,Nat.zero_add]
  exact hq.cell (by simpa [bec] using hj)) (zxo e) (by omega) (by simp only[maxLen];omega) (by omega) hbase (λA' c' w' ho' hg' hn'=>?_)
 have hf:=Fs.of_grown hg'
 have hn:=Nx.of_new hn'
 refine hk _ w' ⟨?_,λe' he'=>?_⟩ hf hn
 ·rw[List.length_append,jq,Zb]
  exact ho'
 ·have hin:RdS w (λk=>base≤k∧k<w.heap.size∧¬ob v k) e'.x.dA (byc e'.d):=by
   rcases List.mem_append.1 he' with h1|h1
   ·exact h.ins e' h1
   ·rw[List.mem_singleton.1 h1];exact he
  exact(hin.keep λg hg=>hf.block g hg.2.1 hg.2.2).imp λg hg hl=>⟨hg.1,hl,λh1=>by
   rcases hn.own h1 with h2|h2
   ·exact hg.2.2 h2
   ·omega⟩
def Be.key(e:Be):Nat × Nat × Nat × List UInt8:=(e.x.ty,e.x.fl,e.x.st,e.d)
end
section
def fcx(ty fl st:Nat):Fm:=⟨ty,fl,st,none,0,0,-1,0,0,0,false,0,none,0,0⟩
theorem zmv(ty fl st k:Nat):(fcx ty fl st).c.setIfInBounds 1 (.int .u8 k)=(fcx ty k st).c:=by unfold fcx Fm.c;rfl
theorem zum(ty fl st:Nat)(A:Option Addr)(n c:Nat):(fcx ty fl st).c.setIfInBounds 3 (.slice A n c)=((fcx ty fl st).ownd A n c).c:=by unfold fcx Fm.ownd Fm.c;rfl
theorem z07(n:Nat)(h1:1≤n)(h2:n≤16384):min (max (n:Int) 1) 16384=(n:Int):=by omega
theorem z1q:∀b:Fin 2,(bits .or .u8 (b.val:Int) 4)=((b.val+4:Nat):Int):=by decide +kernel
theorem zvj(w:World)(cs:Array Value)(x:Fm):∃w',((w.alloc (.cells cs 128)).alloc (.cells z2x 66)).setRow (w.heap.size+1) x.c=w'∧
  Row (w.alloc (.cells cs 128)) w.heap.size 128 cs∧Row ((w.alloc (.cells cs 128)).alloc (.cells z2x 66)) (w.heap.size+1) 66 fmz.c∧
  Row w' w.heap.size 128 cs∧Row w' (w.heap.size+1) 66 x.c∧Below w.heap.size w w'∧w'.heap.size=w.heap.size+2:=by
 have h1:Row ((w.alloc (.cells cs 128)).alloc (.cells #[.int .u8 0,.int .u8 0,.int .u32 0,.slice none 0 0,.int .i64 0,.int .u32 0,.int .u32 0,.int .u8 0,.bool false,.int .u32 0,.slice none 0 0] 66)) (w.heap.size+1) 66 fmz.c:=by rw[zhx];exact Row.made _ _ _ (by simp)
 exact⟨_,rfl,Row.new w _ _,h1,((Row.new w _ _).alloc _).row_far (by omega) _,h1.setRow _,zd (((Below.refl _ _).alloc (Nat.le_refl _) _).alloc (by simp) _) _ _ (by omega),by simp⟩
theorem z0i(x:Fm)(d:List UInt8)(hd:x.dn=d.length)(h1:x.ty<256)(h2:x.fl<256)(h3:x.st<4294967296):∃e:Be,e.x=x∧e.d=d∧e.key=(x.ty,x.fl,x.st,d):=⟨⟨x,d,hd,h1,h2,h3⟩,rfl,rfl,rfl⟩
attribute [local irreducible] Fm.c whc
end
section
def z2c(w:World)(base:Nat)(b:List UInt8)(st:Nat)(en:Bool)(v:Value):Prop:=∃x A2 c2,FrL w base v [x]∧x.x=(fcx 1 ((if en=true then 1 else 0)+4) st).ownd A2 b.length c2∧x.d=b
attribute [local irreducible] Fm.c whc
theorem zv6{w:World}{A:Option Addr}{c:Nat}{b:List UInt8}{st n:Nat}{en:Bool}(hr:RdB w w.heap.size A b)(hc:b.length≤c)(hb:b.length≤1000)(hn:1≤n∧n≤16384)(hbn:b.length≤n)(hst:st<4294967296) :
  Calls Tryz.prog 73 #[.agg (whc st A b.length c en),.int .i64 n] w λe w'=>(∃v,e=.returned v∧z2c w' w.heap.size b st en v)∧Below w.heap.size w w':=by
 obtain⟨w1,hw1,t1,t2,t3,t4,t5,t6⟩:=zvj w (whc st A b.length c en) (fcx 1 0 st)
 have T7:=z2w hw1
 have T1:=z2w t1
 have T2:=z2w t2
 have RW1:=z2w t3
 have RF1:=z2w t4
 have HB1:=z2w t5
 have HS1:Hid (w1.heap.size=w.heap.size+2):=t6
 have HR1:Hid (RdB w1 w.heap.size A b):=hr.below t5
 have HC:=z2w hc
 have HBL:=z2w hb
 have HN:=z2w hn
 have HST:=z2w hst
 have hmm:=z07 n hn.1 hn.2
 clear hw1 t1 t2 t3 t4 t5 t6 hr hc hb hn hst
 obtain⟨q0,_,_⟩:=zbi T1.out
 go_enter Tryz.func73,Tryz.ntmps73
 go_upto_region 3 with (first|(refine zn rfl 66 _ rfl (fcx 1 0 st).c (by kernel_rfl) ?_)|(refine ze (cs:=(fcx 1 0 st).c) rfl _ _ rfl rfl rfl T2.out (ztu _ _) (zlr _) ?_))
 rw[T7.out]
 clear T7 T1 T2 hmm q0
 generalize hp:w.heap.size=p at *
 have HP:=z2w hp
 clear hp
 obtain⟨q0,q1,q2⟩:=zbi RW1.out
 have ht:=RF1.out.thawed 1
 obtain⟨_,f1,_⟩:=zf RF1.out
 have f1':w1.cell? ⟨p+1,1,none⟩=some (.int .u8 0):=f1
 clear f1
 obtain⟨fl0,hfl0⟩:∃fl0:Nat,fl0=(if en=true then 1 else 0):=⟨_,rfl⟩
 have HF0:Hid (fl0=(if en=true then 1 else 0)):=hfl0
 clear hfl0
 obtain⟨w2,hw2,RF2,RW2,HB2,HR2,HS2⟩:∃w2,(en=true∧w1.setCell ⟨p+1,1,none⟩ (.int .u8 1)=w2∨en=false∧w1=w2)∧Hid (Row w2 (p+1) 66 (fcx 1 fl0 st).c)∧Hid (Row w2 p 128 (whc st A b.length c en))∧Hid (Below p w w2)∧Hid (RdB w2 p A b)∧Hid (w2.heap.size=p+2):=by
  cases en with
  |true=>
   have e0:fl0=1:=HF0.out
   subst e0
   refine⟨_,.inl ⟨rfl,rfl⟩,?_,RW1.out.set_far (by omega) _ _,HB1.out.setCell (p:=⟨p+1,1,none⟩) (by show p≤p+1;omega) _,HR1.out.below ((Below.refl p w1).setCell (p:=⟨p+1,1,none⟩) (by show p≤p+1;omega) _),?_⟩
   ·have:=RF1.out.stored 1 (.int .u8 1)
    have e1:=zmv 1 0 st 1
    rw[show (Value.int .u8 ((1:Nat):Int))=.int .u8 1 from rfl] at e1
    rw[e1] at this
    exact this
   ·show _=_
    rw[←HS1.out]
    simp[World.setCell]
  |false=>
   have e0:fl0=0:=HF0.out
   subst e0
   exact⟨_,.inr ⟨rfl,rfl⟩,RF1,RW1,HB1,HR1,HS1⟩
 have HW2:=z2w hw2
 clear hw2 RF1 HB1 HR1 HS1
 go_upto_if 15 with fail
 go_cut [] (λwx=>wx=w2)
 case first=>
  rcases HW2.out with ⟨rfl,h1⟩|⟨rfl,h1⟩
  ·have H1:=z2w h1
   clear h1 HW2
   go_wp2_with fail
   go_meet
   exact H1.out
  ·subst h1
   clear HW2
   go_wp2_with fail
   go_meet
   rfl
 case rest=>
  subst hcut
  clear HW2 RW1 q0 q1 q2 ht f1'
  generalize wc=w3 at *
  obtain⟨_,q1,_⟩:=zbi RW2.out
  go_upto_region 7 with fail
  clear q1
  go_loopw [6,7] (λlv rv wr=>lv=.slice none 0 0∧rv=.slice A b.length c∧wr=w3) (λ_ _ _=>0)
  case atStart=>exact⟨rfl,rfl,rfl⟩
  case round=>
   obtain⟨rfl,rfl,rfl⟩:=hrel
   clear HS2
   have h7:decide ((n:Int)<(b.length:Int))=false:=decide_eq_false (by omega)
   have h7':decide (n<b.length)=false:=decide_eq_false (by omega)
   have hfl2:fl0<2:=by rw[HF0.out];split<;>omega
   obtain⟨f4,hf4⟩:∃f4:Nat,f4=fl0+4:=⟨_,rfl⟩
   have ho4:=z1q ⟨fl0,hfl2⟩
   simp only at ho4
   rw[←hf4] at ho4
   have HF4:Hid (f4=fl0+4):=hf4
   have hpz:p≤wr.heap.size:=by have:=HB2.out.size;have:=HP.out;omega
   have HPZ:Hid (p≤wr.heap.size∧p+2≤wr.heap.size):=⟨hpz,RF2.out.lt⟩
   clear hfl2 hf4 hpz
   have ht1:=RF2.out.thawed 1
   obtain⟨_,f1,_⟩:=zf RF2.out
   have f1':wr.cell? ⟨p+1,1,none⟩=some (.int .u8 fl0):=f1
   clear f1
   have RF3:Hid (Row (wr.setCell ⟨p+1,1,none⟩ (.int .u8 f4)) (p+1) 66 (fcx 1 f4 st).c):=by
    have:=RF2.out.stored 1 (.int .u8 f4)
    rw[zmv] at this
    exact this
   have HB3:=z2w (HB2.out.setCell (p:=⟨p+1,1,none⟩) (by show p≤p+1;omega) (.int .u8 f4))
   have HR3:Hid (RdB (wr.setCell ⟨p+1,1,none⟩ (.int .u8 f4)) p A b):=HR2.out.below ((Below.refl p wr).setCell (p:=⟨p+1,1,none⟩) (by show p≤p+1;omega) _)
   have HPZ2:Hid (p≤(wr.setCell ⟨p+1,1,none⟩ (.int .u8 f4)).heap.size∧(wr.setCell ⟨p+1,1,none⟩ (.int .u8 f4)).heap.size=wr.heap.size):=by
    have h:(wr.setCell ⟨p+1,1,none⟩ (.int .u8 f4)).heap.size=wr.heap.size:=by simp[World.setCell]
    exact⟨by rw[h];exact HPZ.out.1,h⟩
   go_upto_region 13 with fail
   clear RF2 RW2 HB2 HR2 ht1 f1' ho4
   generalize wr.setCell ⟨p+1,1,none⟩ (.int .u8 f4)=w2 at *
   have hcl:=zim (c:=c) HR3.out HPZ2.out.1 (by have:=HBL.out;omega)
   have HCL:=z2w hcl
   clear hcl HR3
   go_wp2_with fail
   refine HCL.out.mono ?_
   rintro e w4 ⟨⟨u,rfl,hbo⟩,hb4⟩
   obtain⟨A2,c2,rfl,-⟩:=Bo.shape hbo
   have RF4:=z2w (RF3.out.below hb4 RF3.out.lt)
   have HB4:Hid (Below p w w4):=HB3.out.trans (hb4.mono HPZ2.out.1)
   have HBO:Hid (Bo w4 wr.heap.size 5 (.slice A2 b.length c2) b):=by have:=hbo;rw[HPZ2.out.2] at this;exact this
   clear hbo hb4 HCL RF3 HB3
   have ht3:=RF4.out.thawed 3
   obtain⟨_,_,_,f3,_⟩:=zf RF4.out
   have RF5:Hid (Row (w4.setCell ⟨p+1,3,none⟩ (.slice A2 b.length c2)) (p+1) 66 ((fcx 1 f4 st).ownd A2 b.length c2).c):=by
    have:=RF4.out.stored 3 (.slice A2 b.length c2)
    rw[zum] at this
    exact this
   have HB5:=z2w (HB4.out.setCell (p:=⟨p+1,3,none⟩) (by show p≤p+1;omega) (.slice A2 b.length c2))
   have HBO5:=z2w (HBO.out.set_far (HBO.out.ne RF4.out (by decide)) 3 (.slice A2 b.length c2))
   go_upto_region 14 with fail
   clear RF4 HB4 HBO ht3 f3
   generalize w4.setCell ⟨p+1,3,none⟩ (.slice A2 b.length c2)=w5 at *
   have HP5:Hid (p≤w5.heap.size):=by have:=HB5.out.size;have:=HP.out;show _≤_;omega
   have hpb:Below w5.heap.size w5 (w5.alloc (.cells ((fcx 1 f4 st).ownd A2 b.length c2).c 66)):=(Below.refl _ _).alloc (Nat.le_refl _) _
   have HE6:Hid (FrL (w5.alloc (.cells ((fcx 1 f4 st).ownd A2 b.length c2).c 66)) (p+2) (.slice none 0 0) []):=FrL.nil _ _
   have HB6:Hid (Below p w (w5.alloc (.cells ((fcx 1 f4 st).ownd A2 b.length c2).c 66))):=HB5.out.trans (hpb.mono HP5.out)
   have HSZ6:Hid (p+2≤(w5.alloc (.cells ((fcx 1 f4 st).ownd A2 b.length c2).c 66)).heap.size):=by have:=RF5.out.lt;show _≤_;simp;omega
   have HI6:Hid (RdS (w5.alloc (.cells ((fcx 1 f4 st).ownd A2 b.length c2).c 66)) (λj=>p+2≤j∧j<(w5.alloc (.cells ((fcx 1 f4 st).ownd A2 b.length c2).c 66)).heap.size∧¬ob (.slice none 0 0) j) A2 (byc b)):=
    ((Bo.low HBO5.out).keep λj hj=>hpb.block j hj.2).imp λj hj hl=>⟨by have:=HPZ.out.2;omega,hl,λh=>by cases h⟩
   obtain⟨e,hex,hed,hek⟩:=z0i ((fcx 1 f4 st).ownd A2 b.length c2) b rfl (by show 1<256;decide) (by show f4<256;rw[HF4.out,HF0.out];split<;>omega) HST.out
   have HQ6:Hid (Row (w5.alloc (.cells ((fcx 1 f4 st).ownd A2 b.length c2).c 66)) w5.heap.size 66 e.x.c):=by
    show Row _ _ _ _
    rw[hex]
    exact Row.new w5 _ _
   have HJ6:Hid (RdS (w5.alloc (.cells ((fcx 1 f4 st).ownd A2 b.length c2).c 66)) (λj=>p+2≤j∧j<(w5.alloc (.cells ((fcx 1 f4 st).ownd A2 b.length c2).c 66)).heap.size∧¬ob (.slice none 0 0) j) e.x.dA (byc e.d)):=by
    show RdS _ _ _ _
    rw[hex,hed]
    exact HI6.out
   have HEX:=z2w hex
   have HED:=z2w hed
   clear hpb HBO5 HB5 hex hed hek HI6
   go_wp2_with (first|(refine zg rfl _ rfl rfl RF5.out ?_)|(refine zk0 (λW=>z1a _ W) rfl _ rfl rfl ?_)|(at_builtin;go_loud (refine ziw rfl (.tmp 45) (.tmp 47) rfl (base:=p+2) (v:=.slice none 0 0) (E:=[]) rfl HE6.out e w5.heap.size rfl HQ6.out HJ6.out (by simp) HSZ6.out ?_;intro v7 w7 hE7 hF7 hN7)))
   go_ret
   have hfb:=hF7.below (B:=p) (λj hj _=>by cases hj) (by have:=HSZ6.out;omega)
   rw[HP.out]
   exact⟨⟨v7,rfl,e,A2,c2,hE7.mono (by omega),by rw[HEX.out,HF4.out,HF0.out],HED.out⟩,HB6.out.trans hfb⟩
end
section
theorem zg0{fn:Func}{p u:Tmp}(h:fn.results=#[.tmp u,.cell p 29])(tmps:Array Value)(w:World)(g:Nat)(cs:Array Value)(hp:tmps.getD p undef=.pointer (some ⟨g,0,none⟩))(hR:Row w g 29 cs)(hc:cs.size=2) :
  (results fn tmps).run Tryz.prog w=.ok (.tuple #[tmps.getD u undef,.agg cs]) w:=by
 have hl:=run_loadVar_row w g 29 29 cs (0,0) _ hR Tryz.underlying29 rfl (zar cs hc)
 have hp':tmps[p]?.getD undef=.pointer (some ⟨g,0,none⟩):=by simpa using hp
 simp only[results,h]
 simp[Sem.run_bind,Result.andThen,hp',asAddr,hl]
theorem zgy(m:Nat)(hm:m<4294967296)(w:World)(base:Nat)(hb:base≤w.heap.size):Calls Tryz.prog 51 #[.int .u32 (m:Int)] w λe w'=>∃gd g,e=.returned (pt gd)∧Dn w' base gd g (.slice none 0 0) [] (min m 4096) (min m 4096)∧w.heap.size≤gd∧w.heap.size≤g∧Below w.heap.size w w':=by
 have hat:=λW=>vi m hm W
 have hmm:min m 4096<4294967296:=by omega
 have hnew:=λW=>zgr (min m 4096) hmm W
 unfold pt at *
 generalize min m 4096=M at *
 go_enter Tryz.func51,Tryz.ntmps51
 go_wp2_with fail
 refine(hat _).mono ?_
 rintro e w1 ⟨rfl,rfl⟩
 go_wp2_with fail
 refine(hnew _).mono ?_
 rintro e w1 ⟨rfl,hw1⟩
 have hT:Tb w1 base w.heap.size (.slice none 0 0) [] M:=by rw[hw1];exact Tb.new w M hb
 have hW:Below w.heap.size w w1:=by rw[hw1];exact(Below.refl _ _).alloc (Nat.le_refl _) _
 have hs:=hT.lt
 clear hw1 hat hnew
 have HT:=z2w hT
 have HW:=z2w hW
 clear hT hW
 go_wp2_with fail
 go_ret
 refine⟨w1.heap.size,w.heap.size,rfl,⟨HT.out.alloc _,Row.new w1 152 _,by omega,by simp[ob,Value.ownBlock],by omega⟩,by omega,Nat.le_refl _,HW.out.alloc (by omega) _⟩
theorem zkx{cap:Nat}{L:List Fd}{M:Nat}{out:List Fd}{l r:List UInt8}{s:RdK}(h:xl cap ⟨L,M,out⟩ l=some (s,r))(hL:tot L≤M)(hM:M≤4096)(hcap:cap≤4096) :
  tot s.tb≤s.mx∧s.mx≤4096∧r.length<l.length∧s.out.length≤out.length+1:=by
 obtain⟨h1,h2,h3,h4⟩:=zak (cap:=cap) (L:=L) (M:=M) (out:=out) (l:=l) (K:=xe (l.headD 0).toNat) rfl
 generalize xe (l.headD 0).toNat=K at *
 by_cases hz:(zs (qy K) l).2.2=0
 ·have hu:=Vh hz
  have hdl:(l.drop (zs (qy K) l).2.1).length<l.length:=by rw[List.length_drop];omega
  by_cases e1:K=32
  ·rw[h2 hz e1] at h
   split at h
   ·cases h
   ·rename_i hno
    injection h with h
    injection h with ha hb
    subst ha hb
    refine⟨?_,by show (zs (qy K) l).1≤4096;omega,hdl,by show out.length≤_;omega⟩
    have:=zh7 ((zs (qy K) l).1:Int) (by omega) L
    show tot (shr _ L)≤(zs (qy K) l).1
    omega
  ·by_cases e2:K=128
   ·rw[h3 hz e2] at h
    cases ha:atT L (zs (qy K) l).1 with
    |none=>rw[ha] at h;cases h
    |some f=>
     rw[ha] at h
     injection h with h
     injection h with hb hc
     subst hb hc
     exact⟨hL,hM,hdl,by simp⟩
   ·rw[h4 hz e1 e2] at h
    cases ha:jo L (zs (qy K) l).1 (K == 16) (l.drop (zs (qy K) l).2.1) with
    |none=>rw[ha] at h;cases h
    |some p=>
     obtain⟨f,r'⟩:=p
     rw[ha] at h
     injection h with h
     injection h with hb hc
     subst hb hc
     have hr:=(zib ha).1
     refine⟨?_,hM,by show r'.length<_;omega,by simp⟩
     show tot (if K=64 then yw M f L else L)≤M
     split
     ·exact zi2
     ·exact hL
 ·rw[h1 hz] at h;cases h
def z1s(w:World)(base gd g:Nat)(v:Value)(cap:Nat)(o:Option RdK)(e:Ending)(w':World):Prop:=
 Fs (EB gd g v) w w'∧match o with
  |none=>e=.returned (.tuple #[.slice none 0 0,.agg #[.int .u8 1,.int .u32 9]])
  |some s=>(∃v',Dn w' base gd g v' s.tb s.mx cap∧Nx w v v'∧tot s.tb≤s.mx∧s.mx≤4096∧
    ((4096<tot s.out∧e=.returned (.tuple #[.slice none 0 0,.agg #[.int .u8 1,.int .u32 11]]))∨
     (tot s.out≤4096∧∃A c,e=.returned (.tuple #[.slice A s.out.length c,.agg #[.int .u8 0,.int .u32 0]])∧OwS w' w.heap.size 57 3 (.slice A s.out.length c) s.out.length (enl fdc s.out)∧
      ∀k,ob (.slice A s.out.length c) k→w.heap.size≤k∧¬EB gd g v' k)))
structure Gt(w2 wr:World)(base bd:Nat)(S:Nat→Prop)(gr gd g:Nat)(v:Value)(cap N:Nat)(R:Option RdK)(fuel:Nat)(s:RdK)(l:List UInt8)(v' fw sv:Value):Prop where
 rg:Rg wr base bd S gr gd g v' fw sv s.tb s.mx cap l s.out
 eq:xc cap fuel s l=R
 fu:l.length≤fuel
 tm:tot s.tb≤s.mx∧s.mx≤4096
 ct:s.out.length+l.length≤N
 fs:Fs (λk=>k=gr∨EB gd g v k) w2 wr
 nv:Nx w2 v v'
 nf:∀k,ob fw k→w2.heap.size≤k
attribute [local irreducible] tot sz shr xl xc
theorem zss{w:World}{base gd g:Nat}{v:Value}{L:List Fd}{M cap:Nat}{S:Nat→Prop}{A:Option Addr}{c:Nat}{l:List UInt8}(h:Dn w base gd g v L M cap)(hcap:cap≤4096)(hM:M≤4096)(hL:tot L≤M)(_hb:base≤w.heap.size)
  (hR:RdS w S A (byc l)) (hc:l.length≤c) (hS:∀k,S k→k<w.heap.size∧¬EB gd g v k) (hl:l.length≤12000) :
  Calls Tryz.prog 130 #[pt gd,.slice A l.length c] w (z1s w base gd g v cap (xc cap l.length ⟨L,M,[]⟩ l)):=by
 obtain⟨R,hRe⟩:∃R,R=xc cap l.length ⟨L,M,[]⟩ l:=⟨_,rfl⟩
 rw[←hRe]
 have hb1:=(Below.refl w.heap.size w).alloc (Nat.le_refl _) (.cells #[.int .u8 0,.int .u32 0] 29)
 have hb2:=(Below.refl (w.heap.size+1) (w.alloc (.cells #[.int .u8 0,.int .u32 0] 29))).alloc (by simp) (.cells #[pt gd,.slice A l.length c,.slice none 0 0,.int .i64 0] 230)
 have hbb:Below w.heap.size w ((w.alloc (.cells #[.int .u8 0,.int .u32 0] 29)).alloc (.cells #[pt gd,.slice A l.length c,.slice none 0 0,.int .i64 0] 230)):=hb1.trans (hb2.mono (by omega))
 have HB:=z2w hbb
 have HRr:Row ((w.alloc (.cells #[.int .u8 0,.int .u32 0] 29)).alloc (.cells #[pt gd,.slice A l.length c,.slice none 0 0,.int .i64 0] 230)) (w.heap.size+1) 230 #[pt gd,.slice A l.length c,.slice none 0 0,.int .i64 0]:=Row.made _ _ _ (by simp)
 have HFr:Hid (Row ((w.alloc (.cells #[.int .u8 0,.int .u32 0] 29)).alloc (.cells #[pt gd,.slice A l.length c,.slice none 0 0,.int .i64 0] 230)) w.heap.size 29 #[.int .u8 0,.int .u32 0]):=(Row.new w 29 #[.int .u8 0,.int .u32 0]).below hb2 (by omega)
 have hs2:((w.alloc (.cells #[.int .u8 0,.int .u32 0] 29)).alloc (.cells #[pt gd,.slice A l.length c,.slice none 0 0,.int .i64 0] 230)).heap.size=w.heap.size+2:=by simp
 have HG0:Hid (Gt ((w.alloc (.cells #[.int .u8 0,.int .u32 0] 29)).alloc (.cells #[pt gd,.slice A l.length c,.slice none 0 0,.int .i64 0] 230)) ((w.alloc (.cells #[.int .u8 0,.int .u32 0] 29)).alloc (.cells #[pt gd,.slice A l.length c,.slice none 0 0,.int .i64 0] 230)) w.heap.size base S (w.heap.size+1) gd g v cap l.length R l.length ⟨L,M,[]⟩ l v (.slice none 0 0) (.int .i64 0)):=by
  have hSl:∀k,S k→k<w.heap.size:=λk hk=>(hS k hk).1
  refine⟨⟨⟨⟨A,c,HRr,hc,hR.keep λk hk=>hbb.block k (hSl k hk),λe=>by have:=hSl _ e;omega⟩,h.below hbb,hS,by omega,λe=>by have:=(h.eb e).2;omega⟩,⟨0,rfl,by omega,.inl ⟨zrj.symm,OwS.nil⟩,λk hk=>by simp[ob,Value.ownBlock] at hk⟩,by simp[ob,Value.ownBlock],λk hk=>by simp[ob,Value.ownBlock] at hk⟩,hRe.symm,Nat.le_refl _,⟨hL,hM⟩,by simp,Fs.refl _ _,Nx.refl _ _,λk hk=>by simp[ob,Value.ownBlock] at hk⟩
 have HEB:Hid (∀k,EB gd g v k→k<w.heap.size):=λk hk=>(h.eb hk).2
 have hcf9:=λW=>vu 9 W
 have hcf11:=λW=>vu 11 W
 clear h hR hRe hb1 hb2 hbb HRr
 unfold pt at *
 go_enter Tryz.func130,Tryz.ntmps130
 go_wp2_with fail
 have hgl:w.heap.size+1<((w.alloc (.cells #[.int .u8 0,.int .u32 0] 29)).alloc (.cells #[.pointer (some ⟨gd,0,none⟩),.slice A l.length c,.slice none 0 0,.int .i64 0] 230)).heap.size:=by simp
 have HS2:=z2w hs2
 clear hs2
 generalize (w.alloc (.cells #[.int .u8 0,.int .u32 0] 29)).alloc (.cells #[.pointer (some ⟨gd,0,none⟩),.slice A l.length c,.slice none 0 0,.int .i64 0] 230)=w2 at *
 go_loopw [14] (λ_ wr=>∃(fuel:Nat) (s:RdK) (m:List UInt8) (v' fw sv:Value),Hid (Gt w2 wr w.heap.size base S (w.heap.size+1) gd g v cap l.length R fuel s m v' fw sv)∧Hid (∃A c,wr.cell? ⟨w.heap.size+1,1,none⟩=some (.slice A m.length c)))
  (λ_ wr=>match wr.cell? ⟨w.heap.size+1,1,none⟩ with|some (.slice _ n _)=>n|_=>0)
 case atStart=>exact⟨l.length,⟨L,M,[]⟩,l,v,_,_,HG0,by obtain⟨A,c,h1,_⟩:=HG0.out.rg.x.r;exact⟨A,c,h1.cell (j:=1) rfl⟩⟩
 case round=>
  clear HG0
  obtain⟨fuel,s,m,v',fw,sv,hG,hC⟩:=hrel
  obtain⟨A1,c1,hc1⟩:=hC.out
  have HFr2:Hid (Row wr w.heap.size 29 #[.int .u8 0,.int .u32 0]):=hG.out.fs.row (λe=>by
   rcases e with e|e
   ·omega
   ·have:=HEB.out _ e;omega) HFr.out
  by_cases hm:m=[]
  · -- the end
   subst hm
   have hRs:R=some s:=by rw[←hG.out.eq];exact znl _ _ _
   subst hRs
   obtain⟨A2,c2,hR2,_,_,_⟩:=hG.out.rg.x.r
   obtain⟨z,rfl,hz,hcs,hfb⟩:=hG.out.rg.f
   have HFF:Hid (Fs (EB gd g v) w wr):=(Fs.of_below (S:=EB gd g v) HB.out).trans hG.out.fs λk hk e=>by
    rcases e with e|e
    ·omega
    ·exact e
   have r2:=hR2.cell (j:=2) rfl
   have r3:=hR2.cell (j:=3) rfl
   have HNv:Hid (Nx w v v'):=(Nx.refl w v).trans hG.out.nv (by have:=HS2.out;omega)
   by_cases hgt:4096<z
   ·have hg1:(4096:Int)<(z:Int):=by omega
    have hto:4096<tot s.out:=by rcases hcs with h1|h1<;>omega
    clear hcs hR2 hcf9
    go_wp2_with fail
    refine(hcf11 _).mono ?_
    rintro e w4 ⟨rfl,hb4⟩
    have hR4:=HFr2.out.below hb4 HFr2.out.lt
    have HR4:=z2w hR4
    have HD4:=z2w (hG.out.rg.x.d.below hb4)
    have HF4:=z2w (HFF.out.then_below hb4)
    have p0:=hR4.cell (j:=0) rfl
    have p1:=hR4.cell (j:=1) rfl
    have z0:=hR4.thawed 0
    have z1:=hR4.thawed 1
    clear hR4 hb4 hcf11 hc1 r2 r3
    go_wp2_with fail
    refine bodyPost_ret (zg0 rfl _ _ w.heap.size #[.int .u8 1,.int .u32 11] rfl (Row.stored (Row.stored HR4.out 0 (.int .u8 1)) 1 (.int .u32 11)) rfl) rfl ?_
    have hFs:Fs (λk=>k=w.heap.size) w4 ((w4.setCell ⟨w.heap.size,0,none⟩ (.int .u8 1)).setCell ⟨w.heap.size,1,none⟩ (.int .u32 11)):=((Fs.refl (λk=>k=w.heap.size) w4).setCell (λ_=>rfl) _ _).setCell (λ_=>rfl) _ _
    refine⟨HF4.out.trans hFs λk hk e=>by omega,v',HD4.out.dis hFs λk hk e=>?_,HNv.out,hG.out.tm.1,hG.out.tm.2,.inl ⟨hto,rfl⟩⟩
    rcases EB.next hG.out.nv hk with e1|e1
    ·have:=HEB.out _ e1;omega
    ·have:=HS2.out;omega
   ·have hg1:decide ((4096:Int)<(z:Int))=false:=by simp;omega
    obtain⟨hzt,hO⟩:z=tot s.out∧OwS wr w.heap.size 57 3 fw s.out.length (enl fdc s.out):=by
     rcases hcs with h1|h1
     ·exact h1
     ·exact absurd h1.1 hgt
    have hto:tot s.out≤4096:=by omega
    obtain⟨A5,c5,rfl,hw1,hw2⟩:=hO.shape
    have HO:=z2w hO
    have HZ:=z2w hzt
    have p0:=HFr2.out.cell (j:=0) rfl
    have p1:=HFr2.out.cell (j:=1) rfl
    have z0:=HFr2.out.thawed 0
    have z1:=HFr2.out.thawed 1
    clear hcs hR2 hcf9 hcf11 hO hzt
    go_wp2_with fail
    refine bodyPost_ret (zg0 rfl _ _ w.heap.size #[.int .u8 0,.int .u32 0] rfl (Row.stored (Row.stored HFr2.out 0 (.int .u8 0)) 1 (.int .u32 0)) rfl) rfl ?_
    have hFs:Fs (λk=>k=w.heap.size) wr ((wr.setCell ⟨w.heap.size,0,none⟩ (.int .u8 0)).setCell ⟨w.heap.size,1,none⟩ (.int .u32 0)):=((Fs.refl (λk=>k=w.heap.size) wr).setCell (λ_=>rfl) _ _).setCell (λ_=>rfl) _ _
    refine⟨HFF.out.trans hFs λk hk e=>by omega,v',hG.out.rg.x.d.dis hFs λk hk e=>?_,HNv.out,hG.out.tm.1,hG.out.tm.2,.inr ⟨hto,A5,c5,rfl,hFs.owns HO.out λk hk e=>?_,λk hk=>⟨?_,hG.out.rg.fe k hk⟩⟩⟩
    ·rcases EB.next hG.out.nv hk with e1|e1
     ·have:=HEB.out _ e1;omega
     ·have:=HS2.out;omega
    ·have h1:=hG.out.nf k hk
     have h2:=HS2.out
     omega
    ·have h1:=hG.out.nf k hk
     have h2:=HS2.out
     omega
  ·have h0:0<m.length:=List.length_pos_iff.2 hm
   have hml:m.length≤12000:=by have:=hG.out.ct;omega
   have hpc:=zpg hG.out.rg hm hml hcap hG.out.tm.2 hG.out.tm.1 (by have:=hG.out.ct;omega)
   have hse:(⟨s.tb,s.mx,s.out⟩:RdK)=s:=rfl
   rw[hse] at hpc
   have hbn:=zkl (cap:=cap) (s:=s) hm hG.out.fu
   have hbs:=λs' r n=>zcc (cap:=cap) (n:=n) (s:=s) (s':=s') (l:=m) (r:=r) hm
   have hiv:=λs' r (e:xl cap s m=some (s',r))=>zkx (cap:=cap) (L:=s.tb) (M:=s.mx) (out:=s.out) (l:=m) (r:=r) (s:=s') e hG.out.tm.1 hG.out.tm.2 hcap
   generalize xl cap s m=P at *
   unfold pt at hpc
   clear hcf11
   go_wp2_with fail
   refine hpc.mono ?_
   intro e w3 he
   cases P with
   |none=>
    obtain⟨hF,rfl⟩:=he
    have hRn:R=none:=by rw[←hG.out.eq];exact hbn rfl
    subst hRn
    have HFF:Hid (Fs (EB gd g v) w w3):=((Fs.of_below (S:=EB gd g v) HB.out).trans hG.out.fs λk hk e=>by
     rcases e with e|e
     ·omega
     ·exact e).trans hF λk hk e=>by
     rcases e with e|e|e
     ·omega
     ·rcases EB.next hG.out.nv e with e1|e1
      ·exact e1
      ·have:=HS2.out;omega
     ·have h1:=hG.out.nf k e;have h2:=HS2.out;omega
    have hR3:=hF.row (λe=>by
     rcases e with e|e|e
     ·omega
     ·rcases EB.next hG.out.nv e with e1|e1
      ·have:=HEB.out _ e1;omega
      ·have:=HS2.out;omega
     ·have h1:=hG.out.nf _ e;have h2:=HS2.out;omega) HFr2.out
    have HR3:=z2w hR3
    clear hF hR3 hpc hbn hbs hiv hG hC hc1
    go_wp2_with fail
    refine(hcf9 _).mono ?_
    rintro e w4 ⟨rfl,hb4⟩
    have hR4:=HR3.out.below hb4 HR3.out.lt
    have HR4:=z2w hR4
    have HF4:=z2w (HFF.out.then_below hb4)
    have p0:=hR4.cell (j:=0) rfl
    have p1:=hR4.cell (j:=1) rfl
    have z0:=hR4.thawed 0
    have z1:=hR4.thawed 1
    clear hR4 hb4 hcf9
    go_wp2_with fail
    refine bodyPost_ret (zg0 rfl _ _ w.heap.size #[.int .u8 1,.int .u32 9] rfl (Row.stored (Row.stored HR4.out 0 (.int .u8 1)) 1 (.int .u32 9)) rfl) rfl ?_
    have hFs:Fs (λk=>k=w.heap.size) w4 ((w4.setCell ⟨w.heap.size,0,none⟩ (.int .u8 1)).setCell ⟨w.heap.size,1,none⟩ (.int .u32 9)):=((Fs.refl (λk=>k=w.heap.size) w4).setCell (λ_=>rfl) _ _).setCell (λ_=>rfl) _ _
    exact⟨HF4.out.trans hFs λk hk e=>by omega,rfl⟩
   |some p=>
    obtain⟨s',r⟩:=p
    obtain⟨hF,rfl,v'',fw',sv',hRg,hN,hNf⟩:=he
    obtain⟨i1,i2,i3,i4⟩:=hiv s' r rfl
    obtain⟨n,hn⟩:∃n,fuel=n+1:=⟨fuel-1,by have:=hG.out.fu;omega⟩
    have HG3:Hid (Gt w2 w3 w.heap.size base S (w.heap.size+1) gd g v cap l.length R n s' r v'' fw' sv'):=by
     refine⟨hRg,?_,by have:=hG.out.fu;omega,⟨i1,i2⟩,by have:=hG.out.ct;omega,hG.out.fs.trans hF λk hk e=>?_,hG.out.nv.trans hN hG.out.fs.size,λk hk=>?_⟩
     ·rw[←hG.out.eq,hn];exact(hbs s' r n rfl).symm
     ·rcases e with e|e|e
      ·exact .inl e
      ·rcases EB.next hG.out.nv e with e1|e1
       ·exact .inr e1
       ·omega
      ·have h1:=hG.out.nf k e;omega
     ·rcases hNf.own hk with h1|h1
      ·exact hG.out.nf k h1
      ·have:=hG.out.fs.size;omega
    have HC3:Hid (∃A c,w3.cell? ⟨w.heap.size+1,1,none⟩=some (.slice A r.length c)):=by obtain⟨A,c,h1,_⟩:=HG3.out.rg.x.r;exact⟨A,c,h1.cell (j:=1) rfl⟩
    clear hF hRg hN hNf hpc hbn hbs hiv hG hC
    go_wp2_with fail
    go_roundw
    case rel=>exact⟨n,s',r,v'',fw',sv',HG3,HC3⟩
    case measure=>
     obtain⟨A3,c3,hc3⟩:=HC3.out
     rw[hc1,hc3]
     exact i3
end
end Go.Proofs.YtooaajnkiokpnaaGreatDoor
