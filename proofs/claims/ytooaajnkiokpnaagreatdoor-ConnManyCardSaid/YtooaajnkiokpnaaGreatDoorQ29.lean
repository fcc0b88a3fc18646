/-
  Part of a proof: Streams' small functions, and what is sent, by their contracts. No conditions. Conditions: those that each theorem names.
-/
import Derived.Test.YtooaajnkiokpnaaGreatDoorQ01
import Derived.Test.YtooaajnkiokpnaaGreatDoorQ21
import Derived.Deep.QuietTactic
import Derived.BigQuiet
import Derived.Deep.CutBlock
import Derived.Deep.DeepCutAuto
namespace Go.Proofs.YtooaajnkiokpnaaGreatDoor
open Go.RowKit Go.WideShapes
set_option maxHeartbeats 4000000
set_option maxRecDepth 100000
section
theorem Ga.row_far{w:World}{base g:Nat}{m:Gm}{A:Option Addr}{c:Nat}{o:Option Nat}(h:Ga w base g m A c o){k:Nat}{cs:Array Value}(hk:Row w k 128 cs)(x:Array Value):Ga (w.setRow k x) base g m A c o:=by
 refine h.keep (setRow_other w k g x (Row.ne h.row hk (by decide))) (λj hj=>setRow_other w k j x (λe=>?_)) (λp hp=>setRow_other w k p x ?_)
 ·subst e
  exact h.own.ne hk (by decide) hj
 ·rcases h.err with ⟨h0,_⟩|⟨p',h0,_,hr⟩
  ·rw[h0] at hp;cases hp
  ·rw[h0] at hp
   obtain rfl:=Option.some.inj hp
   exact Row.ne hr hk (by decide)
section
variable {w wk w':World}{base g:Nat}{v:Value}{r:Gm × Bool × Gm}{e:Ending}
theorem Nx.from{u:Value}(h:Nx wk v u)(hs:w.heap.size≤wk.heap.size):Nx w v u:=by
 rcases h with h|h
 ·exact .inl h
 ·exact .inr λk hk=>Nat.le_trans hs (h k hk)
theorem TkPY.from(h:TkPY wk base g v r e w')(hf:Fs (gvS g v) w wk):TkPY w base g v r e w':=by
 obtain⟨A',c',o,h1,h2,h3,h4,h5,h6⟩:=h
 refine⟨A',c',o,h1,hf.trans h2 (λ_ _ h=>h),h3,h4.from hf.size,h5,?_⟩
 rcases h6 with ⟨q1,q2,A2,c2,q3,q4⟩|h6
 ·exact .inl ⟨q1,q2,A2,c2,q3,q4.from hf.size⟩
 ·exact .inr h6
theorem TkPY.stored{k:Nat}{cs:Array Value}(h:TkPY w base g v r e w')(hk:Row w' k 128 cs)(hge:w.heap.size≤k)(x:Array Value):TkPY w base g v r e (w'.setRow k x):=by
 obtain⟨A',c',o,h1,h2,h3,h4,h5,h6⟩:=h
 refine⟨A',c',o,h1,h2.setRow (g:=k) (λh=>absurd h (by omega)) x,h3.row_far (h3.ne hk (by decide)) x,h4,h5,?_⟩
 rcases h6 with ⟨q1,q2,A2,c2,q3,q4⟩|⟨q1,q2,p,old,q3,q4,q5,q6⟩
 ·exact .inl ⟨q1,q2,A2,c2,q3.row_far hk x,q4⟩
 ·exact .inr ⟨q1,q2,p,old,q3,q4.row_far (Row.ne q4 hk (by decide)) x,q5.row_far (Row.ne q5 hk (by decide)) x,q6⟩
end
section
variable {m:Gm}{ty fl st:Nat}{d:List UInt8}
theorem zwx(h:m.bad≠0):gtk m ty fl st d=(m,false,gm0):=by unfold gtk;rw[if_pos h]
theorem zp7(h:m.bad=0)(hb:m.busy=true)(ht:ty=9∧st=m.st):gtk m ty fl st d=y3 (ztb m d) fl:=by unfold gtk;rw[if_neg (by simp[h]),if_neg (by simp[hb]),if_pos ht]
theorem zgf(h:m.bad=0)(hb:m.busy=true)(ht:¬(ty=9∧st=m.st)):gtk m ty fl st d=(gmF 1,false,gm0):=by unfold gtk;rw[if_neg (by simp[h]),if_neg (by simp[hb]),if_neg ht]
theorem zp1(h:m.bad=0)(hb:m.busy=false)(ht:ty=1):gtk m ty fl st d=y3 (zkk fl st d) fl:=by subst ht;unfold gtk;rw[if_neg (by simp[h]),if_pos hb,if_neg (by decide),if_pos rfl]
theorem zth(h:m.bad=0)(hb:m.busy=false)(ht:ty=9):gtk m ty fl st d=(gmF 1,false,gm0):=by unfold gtk;rw[if_neg (by simp[h]),if_pos hb,if_pos ht]
theorem zsn(h:m.bad=0)(hb:m.busy=false)(h1:ty≠1)(h9:ty≠9):gtk m ty fl st d=(m,false,gm0):=by unfold gtk;rw[if_neg (by simp[h]),if_pos hb,if_neg h9,if_neg h1]
end
theorem TkPY.bad{w w':World}{base g:Nat}{m:Gm}{A:Option Addr}{c p:Nat}{v:Value}(h:Ga w' base g m A c (some p))(hb:m.bad≠0)(hf:Fs (gvS g v) w w') :
  TkPY w base g v (m,false,gm0) (.returned (.tuple #[.agg (whc 0 none 0 0 false),.bool false,erv (some p)])) w':=by
 refine⟨none,0,some p,rfl,hf,Bo.nil,Nx.none w v,λ_=>⟨rfl,rfl⟩,.inr ⟨hb,h.ok,p,_,rfl,?_,h.row,Qc _ _ _ _ _ _ _ _⟩⟩
 rcases h.err with ⟨h0,_⟩|⟨p',h0,_,hr⟩
 ·cases h0
 ·obtain rfl:=Option.some.inj h0
  exact hr
theorem ziu{P:Program}{w:World}{T:TypeId}{cs:Array Value}{ops:Array Oper}{rest:List Oper}{o:Oper}{a:Act}{Q:Exit→Act→World→Prop}(hgd:o.guard=none)(p q:Operand)(ho:o.op=.store T p q){b i:Nat}(hp:a.eval p=.pointer (some ⟨b,i,none⟩))(hv:a.eval q=.agg cs)(ht:w.there b i cs.size)(hk:AgOk P T cs)
  (hq:wpList P ops Q rest (a.put o.dst undef) (w.setCells b i cs.toList)):wpList P ops Q (o :: rest) a w:=
 wpList_store_mid hgd T p q ho b i cs hp hv ht hk.s hk.o hq
def zmb(cs:Array Value):Nat→List Value→Array Value
 |_,[]=>cs
 |o,v :: r=>zmb (cs.setIfInBounds o v) (o+1) r
theorem zcp{g:Nat}{t:TypeId}:∀(vs:List Value) (o:Nat) (w:World) (cs:Array Value),Row w g t cs→Row (w.setCells g o vs) g t (zmb cs o vs)
 |[],_,_,_,h=>h
 |v :: r,o,_,_,h=>zcp r (o+1) _ _ (h.stored o v)
theorem Xl(x:List Value):∀(w:World) (g k o:Nat),k≠g→(w.setCells g o x).heap[k]?=w.heap[k]?:=by
 induction x with
 |nil=>intros;rfl
 |cons v r ih=>intro w g k o hk;rw[World.setCells,ih _ _ _ _ hk];exact Below.heap_setCell w _ v k hk
theorem zlx(x:List Value):∀(w:World) (g o:Nat),(w.setCells g o x).heap.size=w.heap.size:=by
 induction x with
 |nil=>intros;rfl
 |cons v r ih=>intro w g o;rw[World.setCells,ih];simp[World.setCell]
theorem zor{S:Nat→Prop}{w w':World}(h:Fs S w w'){g:Nat}(hg:g<w.heap.size→S g):∀(x:List Value) (o:Nat),Fs S w (w'.setCells g o x):=by
 intro x
 induction x generalizing w' with
 |nil=>intro o;exact h
 |cons v r ih=>intro o;rw[World.setCells];exact ih (h.setCell hg o v) _
theorem zpx{w:World}{g st:Nat}{A:Option Addr}{n c:Nat}{en busy:Bool}{more:Nat}{o:Option Nat}(h:Row w g 147 (gac st A n c en busy more o))(st':Nat)(A':Option Addr)(n' c':Nat)(en':Bool):Row (w.setCells g 0 (whc st' A' n' c' en').toList) g 147 (gac st' A' n' c' en' busy more o):=by
 have e:zmb (gac st A n c en busy more o) 0 (whc st' A' n' c' en').toList=gac st' A' n' c' en' busy more o:=by kernel_rfl
 have h1:=zcp (whc st' A' n' c' en').toList 0 w _ h
 rw[e] at h1
 exact h1
theorem zte{w:World}{g st:Nat}{A:Option Addr}{n c:Nat}{en busy:Bool}{more:Nat}{o:Option Nat}(h:Row w g 147 (gac st A n c en busy more o))(cs:Array Value)(hcs:cs.size=3):w.there g 0 cs.size:=λj hj=>by
 rw[Nat.zero_add]
 rw[hcs] at hj
 refine⟨?_,h.thawed j⟩
 rw[h.cell (v:=(gac st A n c en busy more o)[j]'(by rw[Qc];omega)) (Array.getElem?_eq_getElem _)]
 rfl
theorem ztf(st:Nat)(A:Option Addr)(n c:Nat)(en busy:Bool)(more:Nat)(o:Option Nat)(b:Bool):(gac st A n c en busy more o).setIfInBounds 3 (.bool b)=gac st A n c en b more o:=rfl
theorem zrb(st:Nat)(A:Option Addr)(n c:Nat)(en busy:Bool)(more:Nat)(o:Option Nat)(k:Nat):(gac st A n c en busy more o).setIfInBounds 4 (.int .i64 k)=gac st A n c en busy k o:=rfl
theorem zgh(p:Nat):erv (some p)=.iface 172 (.pointer (some ⟨p,0,none⟩)):=rfl
theorem Ql:erv none=.nilIface:=rfl
attribute [local irreducible] Fm.c gac
theorem zr9{w:World}{base g:Nat}{m:Gm}{A:Option Addr}{c p:Nat}(h:Ga w base g m A c (some p))(hb:m.bad≠0)(x:Fm)(d:List UInt8) :
  Calls Tryz.prog 129 #[.pointer (some ⟨g,0,none⟩),.agg x.c] w (TkPY w base g (.slice A m.blk.length c) (gtk m x.ty x.fl x.st d)):=by
 rw[zwx hb]
 obtain⟨w1,hw1,t1,t2,t3,t4⟩:=Jq w x
 have T7:=z2w hw1
 have TW:=z2w t2
 have H:=z2w (h.below t3)
 have HB:=z2w hb
 have HF:Hid (Fs (gvS g (.slice A m.blk.length c)) w w1):=Fs.of_below t3
 have f5:=(js H.out.row).2.2.2.2.2
 rw[zgh] at f5
 clear hw1 t1 t2 t3 t4 h hb
 go_enter Tryz.func129,Tryz.ntmps129
 go_upto_region 1 with fail
 rw[T7.out]
 clear T7
 go_wp2_with fail
 have TW2:Hid (Row w1.drew (w.heap.size+1) 128 (whc 0 none 0 0 false)):=TW.out
 have H2:Hid (Ga w1.drew base g m A c (some p)):=H.out.keep rfl (λ_ _=>rfl) (λ_ _=>rfl)
 have HF2:Hid (Fs (gvS g (.slice A m.blk.length c)) w w1.drew):=HF.out.drewN 1
 refine wp_region_held_drew (S:=λw'=>w'.cell? ⟨g,5,none⟩=some (.iface 172 (.pointer (some ⟨p,0,none⟩)))) (by kernel_rfl) f5 (λhHeld=>?_)
 clear TW H HF
 refine tkH 0 ?_
 refine tkH 1 ?_
 refine tkH 2 ?_
 refine tkH 3 ?_
 refine tkH 4 ?_
 generalize w1.drew=w2 at *
 refine rdH 5 λK hK=>?_
 refine qq (cs:=whc 0 none 0 0 false) rfl _ _ rfl rfl rfl TW2.out (j4 _ _ _ _ _ _ _ _ _ _) (qd _ _ _ _ _) ?_
 refine hK.out _ _ ?_ (λhHeld=>?_)
 ·exact(World.cell?_of_block (a:=⟨g,5,none⟩) (setRow_other w2 _ g _ (Row.ne H2.out.row TW2.out (by decide)))).trans hHeld
 clear hK K
 try refine ptk ?_
 refine tkH 6 ?_
 refine tkH 7 ?_
 refine dnH ?_
 go_wp2_with fail
 refine bodyPost_ret (v:=.tuple #[.agg (whc 0 none 0 0 false),.bool false,erv (some p)]) (yt rfl _ rfl (TW2.out.setRow _) (qd _ _ _ _ _) rfl rfl) rfl ?_
 exact(TkPY.bad H2.out HB.out HF2.out).stored TW2.out (by omega) _
attribute [local irreducible] whc
theorem zot{w:World}{base g:Nat}{m:Gm}{A:Option Addr}{c:Nat}(h:Ga w base g m A c none)(hb:m.bad=0)(hi:m.busy=false)(x:Fm)(d:List UInt8)(ht:x.ty=9) :
  Calls Tryz.prog 129 #[.pointer (some ⟨g,0,none⟩),.agg x.c] w (TkPY w base g (.slice A m.blk.length c) (gtk m x.ty x.fl x.st d)):=by
 rw[zth hb hi ht]
 obtain⟨w1,hw1,t1,t2,t3,t4⟩:=Jq w x
 have T7:=z2w hw1
 have TX:=z2w t1
 have TW:=z2w t2
 have H:=z2w (h.below t3)
 have HF:Hid (Fs (gvS g (.slice A m.blk.length c)) w w1):=Fs.of_below t3
 have HSZ:Hid (w1.heap.size=w.heap.size+2):=t4
 obtain⟨f0,f1,f2,f3,f4,f5⟩:=js H.out.row
 obtain⟨c0,c1,c2,_⟩:=zf TX.out
 rw[Ql] at f5
 clear hw1 t1 t2 t3 t4 h
 rw[hi] at f3
 have e1:((x.ty:Int) == 1)=false:=by rw[ht];rfl
 have e9:((x.ty:Int) == 9)=true:=by rw[ht];rfl
 clear hb hi ht TX f0 f1 f2 f4 c1 c2 HSZ
 go_enter Tryz.func129,Tryz.ntmps129
 go_upto_region 1 with fail
 rw[T7.out]
 clear T7
 go_wp2_with (refine zn rfl 128 _ rfl (whc 0 none 0 0 false) (by kernel_rfl) ?_)
 refine(qw 1 _).mono ?_
 rintro e w3 ⟨p,rfl,hr,hb3⟩
 have HR3:=z2w (H.out.row.below hb3 H.out.row.lt)
 have TW3:Hid (Row w3 (w.heap.size+1) 128 (whc 0 none 0 0 false)):=TW.out.below hb3 TW.out.lt
 have HF3:Hid (Fs (gvS g (.slice A m.blk.length c)) w w3):=HF.out.then_below hb3
 have HP:Hid (Row w3 p 174 #[.int .u8 1,.int .u32 1]):=hr
 clear H TW HF hr hb3
 go_wp2_with (refine ze (cs:=whc 0 none 0 0 false) rfl _ _ rfl rfl rfl TW3.out (j4 _ _ _ _ _ _ _ _ _ _) (qd _ _ _ _ _) ?_)
 refine bodyPost_ret (v:=.tuple #[.agg (whc 0 none 0 0 false),.bool false,erv (some p)]) (yt rfl _ rfl (TW3.out.setRow _) (qd _ _ _ _ _) rfl rfl) rfl ?_
 exact(TkPY.fail (c:=1) (by omega) HF3.out HP.out HR3.out (Qc _ _ _ _ _ _ _ _)).stored TW3.out (by omega) _
theorem znc{w:World}{base g:Nat}{m:Gm}{A:Option Addr}{c:Nat}(h:Ga w base g m A c none)(hb:m.bad=0)(hi:m.busy=false)(x:Fm)(d:List UInt8)(h1:x.ty≠1)(h9:x.ty≠9) :
  Calls Tryz.prog 129 #[.pointer (some ⟨g,0,none⟩),.agg x.c] w (TkPY w base g (.slice A m.blk.length c) (gtk m x.ty x.fl x.st d)):=by
 rw[zsn hb hi h1 h9]
 obtain⟨w1,hw1,t1,t2,t3,t4⟩:=Jq w x
 have T7:=z2w hw1
 have TX:=z2w t1
 have TW:=z2w t2
 have H:=z2w (h.below t3)
 have HF:Hid (Fs (gvS g (.slice A m.blk.length c)) w w1):=Fs.of_below t3
 have HSZ:Hid (w1.heap.size=w.heap.size+2):=t4
 obtain⟨f0,f1,f2,f3,f4,f5⟩:=js H.out.row
 obtain⟨c0,c1,c2,_⟩:=zf TX.out
 rw[Ql] at f5
 clear hw1 t1 t2 t3 t4 h
 rw[hi] at f3
 have e1:((x.ty:Int) == 1)=false:=zt3 (by omega)
 have e9:((x.ty:Int) == 9)=false:=zt3 (by omega)
 have HB:=z2w hb
 clear hb hi h1 h9 TX f0 f1 f2 f4 c1 c2 HSZ
 go_enter Tryz.func129,Tryz.ntmps129
 go_upto_region 1 with fail
 rw[T7.out]
 clear T7
 go_wp2_with (first|(refine zn rfl 128 _ rfl (whc 0 none 0 0 false) (by kernel_rfl) ?_)|(refine ze (cs:=whc 0 none 0 0 false) rfl _ _ rfl rfl rfl TW.out (j4 _ _ _ _ _ _ _ _ _ _) (qd _ _ _ _ _) ?_))
 refine bodyPost_ret (v:=.tuple #[.agg (whc 0 none 0 0 false),.bool false,.nilIface]) (yt rfl _ rfl (TW.out.setRow _) (qd _ _ _ _ _) rfl rfl) rfl ?_
 exact(TkPY.on HB.out HF.out H.out (.inl rfl)).stored TW.out (by omega) _
theorem zhs{w:World}{base g:Nat}{m:Gm}{A:Option Addr}{c:Nat}(h:Ga w base g m A c none)(hb:m.bad=0)(hi:m.busy=true)(x:Fm)(d:List UInt8)(ht:x.ty≠9) :
  Calls Tryz.prog 129 #[.pointer (some ⟨g,0,none⟩),.agg x.c] w (TkPY w base g (.slice A m.blk.length c) (gtk m x.ty x.fl x.st d)):=by
 rw[zgf hb hi (λe=>ht e.1)]
 obtain⟨w1,hw1,t1,t2,t3,t4⟩:=Jq w x
 have T7:=z2w hw1
 have TX:=z2w t1
 have TW:=z2w t2
 have H:=z2w (h.below t3)
 have HF:Hid (Fs (gvS g (.slice A m.blk.length c)) w w1):=Fs.of_below t3
 have HSZ:Hid (w1.heap.size=w.heap.size+2):=t4
 obtain⟨f0,f1,f2,f3,f4,f5⟩:=js H.out.row
 obtain⟨c0,c1,c2,_⟩:=zf TX.out
 rw[Ql] at f5
 clear hw1 t1 t2 t3 t4 h
 rw[hi] at f3
 have e9:((x.ty:Int) != 9)=true:=bne_iff_ne.2 (by omega)
 clear hb hi ht f1 f2 f4 c1 HSZ
 go_enter Tryz.func129,Tryz.ntmps129
 go_upto_region 1 with fail
 rw[T7.out]
 clear T7
 go_wp2_with fail
 go_quiet (fail)
 have H2:Hid (Ga (w1.drewN nq) base g m A c none):=H.out.keep rfl (λ_ _=>rfl) (λ_ _=>rfl)
 have TW2:Hid (Row (w1.drewN nq) (w.heap.size+1) 128 (whc 0 none 0 0 false)):=TW.out
 have HF2:Hid (Fs (gvS g (.slice A m.blk.length c)) w (w1.drewN nq)):=HF.out.drewN nq
 clear H TX TW HF f0 f3 f5 c0 c2
 generalize w1.drewN nq=w2 at *
 go_wp2_with (refine zn rfl 128 _ rfl (whc 0 none 0 0 false) (by kernel_rfl) ?_)
 refine(qw 1 _).mono ?_
 rintro e w3 ⟨p,rfl,hr,hb3⟩
 have HR3:=z2w (H2.out.row.below hb3 H2.out.row.lt)
 have TW3:Hid (Row w3 (w.heap.size+1) 128 (whc 0 none 0 0 false)):=TW2.out.below hb3 TW2.out.lt
 have HF3:Hid (Fs (gvS g (.slice A m.blk.length c)) w w3):=HF2.out.then_below hb3
 have HP:Hid (Row w3 p 174 #[.int .u8 1,.int .u32 1]):=hr
 clear H2 TW2 HF2 hr hb3
 go_wp2_with (refine ze (cs:=whc 0 none 0 0 false) rfl _ _ rfl rfl rfl TW3.out (j4 _ _ _ _ _ _ _ _ _ _) (qd _ _ _ _ _) ?_)
 refine bodyPost_ret (v:=.tuple #[.agg (whc 0 none 0 0 false),.bool false,erv (some p)]) (yt rfl _ rfl (TW3.out.setRow _) (qd _ _ _ _ _) rfl rfl) rfl ?_
 exact(TkPY.fail (c:=1) (by omega) HF3.out HP.out HR3.out (Qc _ _ _ _ _ _ _ _)).stored TW3.out (by omega) _
theorem zhf{w:World}{base g:Nat}{m:Gm}{A:Option Addr}{c:Nat}(h:Ga w base g m A c none)(hb:m.bad=0)(hi:m.busy=true)(x:Fm)(d:List UInt8)(ht:x.ty=9)(hs:x.st≠m.st) :
  Calls Tryz.prog 129 #[.pointer (some ⟨g,0,none⟩),.agg x.c] w (TkPY w base g (.slice A m.blk.length c) (gtk m x.ty x.fl x.st d)):=by
 rw[zgf hb hi (λe=>hs e.2)]
 obtain⟨w1,hw1,t1,t2,t3,t4⟩:=Jq w x
 have T7:=z2w hw1
 have TX:=z2w t1
 have TW:=z2w t2
 have H:=z2w (h.below t3)
 have HF:Hid (Fs (gvS g (.slice A m.blk.length c)) w w1):=Fs.of_below t3
 have HSZ:Hid (w1.heap.size=w.heap.size+2):=t4
 obtain⟨f0,f1,f2,f3,f4,f5⟩:=js H.out.row
 obtain⟨c0,c1,c2,_⟩:=zf TX.out
 rw[Ql] at f5
 clear hw1 t1 t2 t3 t4 h
 rw[hi] at f3
 have e9:((x.ty:Int) != 9)=false:=by rw[ht];rfl
 have es:((x.st:Int) != (m.st:Int))=true:=bne_iff_ne.2 (by omega)
 clear hb hi ht hs f1 f2 f4 c1 HSZ
 go_enter Tryz.func129,Tryz.ntmps129
 go_upto_region 1 with fail
 rw[T7.out]
 clear T7
 go_wp2_with fail
 go_quiet (fail)
 have H2:Hid (Ga (w1.drewN nq) base g m A c none):=H.out.keep rfl (λ_ _=>rfl) (λ_ _=>rfl)
 have TW2:Hid (Row (w1.drewN nq) (w.heap.size+1) 128 (whc 0 none 0 0 false)):=TW.out
 have HF2:Hid (Fs (gvS g (.slice A m.blk.length c)) w (w1.drewN nq)):=HF.out.drewN nq
 clear H TX TW HF f0 f3 f5 c0 c2
 generalize w1.drewN nq=w2 at *
 go_wp2_with (refine zn rfl 128 _ rfl (whc 0 none 0 0 false) (by kernel_rfl) ?_)
 refine(qw 1 _).mono ?_
 rintro e w3 ⟨p,rfl,hr,hb3⟩
 have HR3:=z2w (H2.out.row.below hb3 H2.out.row.lt)
 have TW3:Hid (Row w3 (w.heap.size+1) 128 (whc 0 none 0 0 false)):=TW2.out.below hb3 TW2.out.lt
 have HF3:Hid (Fs (gvS g (.slice A m.blk.length c)) w w3):=HF2.out.then_below hb3
 have HP:Hid (Row w3 p 174 #[.int .u8 1,.int .u32 1]):=hr
 clear H2 TW2 HF2 hr hb3
 go_wp2_with (refine ze (cs:=whc 0 none 0 0 false) rfl _ _ rfl rfl rfl TW3.out (j4 _ _ _ _ _ _ _ _ _ _) (qd _ _ _ _ _) ?_)
 refine bodyPost_ret (v:=.tuple #[.agg (whc 0 none 0 0 false),.bool false,erv (some p)]) (yt rfl _ rfl (TW3.out.setRow _) (qd _ _ _ _ _) rfl rfl) rfl ?_
 exact(TkPY.fail (c:=1) (by omega) HF3.out HP.out HR3.out (Qc _ _ _ _ _ _ _ _)).stored TW3.out (by omega) _
end
section
theorem zpy(st:Nat)(A:Option Addr)(n c:Nat)(en:Bool):(whc st A n c en).size=3:=rfl
attribute [local irreducible] Fm.c gac whc y3
theorem zpl{w:World}{base g:Nat}{m:Gm}{A:Option Addr}{c:Nat}(h:Ga w base g m A c none)(hb:m.bad=0)(hi:m.busy=true)(x:Fm)(d:List UInt8)(ht:x.ty=9)(hs:x.st=m.st)(hfl:x.fl<256)(hdn:x.dn=d.length)(hd:d.length≤1000000000)(hD:RdS w (·≠g) x.dA (byc d)) :
  Calls Tryz.prog 129 #[.pointer (some ⟨g,0,none⟩),.agg x.c] w (TkPY w base g (.slice A m.blk.length c) (gtk m x.ty x.fl x.st d)):=by
 rw[zp7 hb hi ⟨ht,hs⟩]
 obtain⟨R,hR⟩:∃R,y3 (ztb m d) x.fl=R:=⟨_,rfl⟩
 have HRR:Hid (y3 ⟨true,m.st,m.blk++d,m.en,m.more+1,0⟩ x.fl=R):=hR
 rw[hR]
 clear hR
 obtain⟨w1,hw1,t1,t2,t3,t4⟩:=Jq w x
 have T7:=z2w hw1
 have TX:=z2w t1
 have TW:=z2w t2
 have H:=z2w (h.below t3)
 have HF:Hid (Fs (gvS g (.slice A m.blk.length c)) w w1):=Fs.of_below t3
 have HD:Hid (RdS w1 (λk=>k≠g∧k<w.heap.size) x.dA (byc d)):=(hD.imp (λk hk hl=>(⟨hk,hl⟩:k≠g∧k<w.heap.size))).keep λk hk=>t3.block k hk.2
 have HSZ:Hid (w1.heap.size=w.heap.size+2):=t4
 have HFL:=z2w hfl
 have HDN:=z2w hdn
 have HDL:=z2w hd
 obtain⟨f0,f1,f2,f3,f4,f5⟩:=js H.out.row
 obtain⟨c0,c1,c2,_⟩:=zf TX.out
 rw[Ql] at f5
 clear hw1 t1 t2 t3 t4 h hfl hdn hd hD
 rw[hi] at f3
 have e9:((x.ty:Int) != 9)=false:=by rw[ht];rfl
 have es:((x.st:Int) != (m.st:Int))=false:=by rw[hs];simp
 have HOK:=z2w H.out.ok
 obtain⟨k,hk⟩:∃k:Nat,k=m.more+1:=⟨_,rfl⟩
 have hw:IntKind.i64.wrap ((m.more:Int)+1)=(k:Int):=by rw[IntWalk.i64_in _ (by have:=HOK.out.mor;omega)];omega
 rw[←hk] at HRR
 have HK:Hid (k≤17):=by show k≤17;have:=HOK.out.mor;omega
 have HI:=z2w hi
 clear hb hi ht hs hk f1 f2 c1
 go_enter Tryz.func129,Tryz.ntmps129
 go_upto_region 1 with fail
 rw[T7.out]
 clear T7
 go_wp2_with fail
 go_quiet (fail)
 have HR2:Hid (Row (w1.drewN nq) g 147 (gac m.st A m.blk.length c m.en true m.more none)):=by
  have:=H.out.row
  rw[HI.out] at this
  exact this
 have HO2:Hid (Bo (w1.drewN nq) base 5 (.slice A m.blk.length c) m.blk):=H.out.own
 have HLO:=z2w H.out.lo
 have TX2:Hid (Row (w1.drewN nq) w.heap.size 66 x.c):=TX.out
 have TW2:Hid (Row (w1.drewN nq) (w.heap.size+1) 128 (whc 0 none 0 0 false)):=TW.out
 have HF2:Hid (Fs (gvS g (.slice A m.blk.length c)) w (w1.drewN nq)):=HF.out.drewN nq
 have HD2:Hid (RdS (w1.drewN nq) (λk=>k≠g∧k<w.heap.size) x.dA (byc d)):=HD.out
 have HSZ2:Hid ((w1.drewN nq).heap.size=w.heap.size+2):=HSZ.out
 clear H TX TW HF HD HSZ f0 f3 f4 f5 c0 c2
 generalize w1.drewN nq=w2 at *
 have f4:=(js HR2.out).2.2.2.2.1
 have ht4:=HR2.out.thawed 4
 have HR3:Hid (Row (w2.setCell ⟨g,4,none⟩ (.int .i64 k)) g 147 (gac m.st A m.blk.length c m.en true k none)):=by
  have:=HR2.out.stored 4 (.int .i64 k)
  rw[zrb] at this
  exact this
 have HO3:=z2w (HO2.out.set_far (HO2.out.ne HR2.out (by decide)) 4 (.int .i64 k))
 have TX3:=z2w (TX2.out.set_far (Row.ne TX2.out HR2.out (by decide)) 4 (.int .i64 k))
 have TW3:=z2w (TW2.out.set_far (Row.ne TW2.out HR2.out (by decide)) 4 (.int .i64 k))
 have HF3:=z2w (HF2.out.setCell (g:=g) (λ_=>.inl rfl) 4 (.int .i64 k))
 have HD3:Hid (RdB (w2.setCell ⟨g,4,none⟩ (.int .i64 k)) w.heap.size x.dA d):=RdB.ofS (HD2.out.keep λj hj=>Below.heap_setCell w2 _ _ j hj.1) (λj hj _=>hj.2)
 have HSZ3:Hid ((w2.setCell ⟨g,4,none⟩ (.int .i64 k)).heap.size=w.heap.size+2):=by show _=_;rw[←HSZ2.out];simp[World.setCell]
 clear HR2 HO2 TX2 TW2 HF2 HD2 HSZ2
 go_upto_region 7 with fail
 clear f4 ht4
 generalize w2.setCell ⟨g,4,none⟩ (.int .i64 k)=w3 at *
 go_wp2_with (refine zg rfl _ rfl rfl TX3.out ?_)
 refine(zhl HR3.out HO3.out (HD3.out.more (by rw[HSZ3.out];omega)) HDN.out HFL.out HLO.out HOK.out.len HDL.out HK.out).mono ?_
 intro e w4 ht
 rw[HRR.out] at ht
 have HT:=z2w (ht.from HF3.out)
 have TW4:Hid (Row w4 (w.heap.size+1) 128 (whc 0 none 0 0 false)):=by
  obtain⟨_,_,_,_,hf,_⟩:=ht
  exact hf.row (λh=>by
   rcases h with h|h
   ·exact Row.ne TW3.out HR3.out (by decide) h
   ·exact HO3.out.ne TW3.out (by decide) h) TW3.out
 obtain⟨A',c',o,rfl,-⟩:=ht
 clear HR3 HO3 TX3 TW3 HF3 HD3
 go_wp2_with (refine ze rfl _ _ rfl rfl rfl TW4.out (j4 _ _ _ _ _ _ _ _ _ _) (qd _ _ _ _ _) ?_)
 refine bodyPost_ret (yt rfl _ rfl (TW4.out.setRow _) (qd _ _ _ _ _) rfl rfl) rfl ?_
 exact HT.out.stored TW4.out (by omega) _
theorem z0v(n:Nat):((((n%2:Nat)):Int) != 0)=decide (n%2=1):=by
 by_cases h:n%2=1
 ·rw[h];rfl
 ·rw[show n%2=0 by omega];rfl
theorem zmr{w:World}{base g:Nat}{m:Gm}{A:Option Addr}{c:Nat}(h:Ga w base g m A c none)(hb:m.bad=0)(hi:m.busy=false)(x:Fm)(d:List UInt8)(ht:x.ty=1)(hfl:x.fl<256)(hdn:x.dn=d.length)(hd:d.length≤1000000000)(hD:RdS w (·≠g) x.dA (byc d)) :
  Calls Tryz.prog 129 #[.pointer (some ⟨g,0,none⟩),.agg x.c] w (TkPY w base g (.slice A m.blk.length c) (gtk m x.ty x.fl x.st d)):=by
 rw[zp1 hb hi ht]
 obtain⟨R,hR⟩:∃R,y3 (zkk x.fl x.st d) x.fl=R:=⟨_,rfl⟩
 have HRR:Hid (y3 ⟨true,x.st,[]++d,decide (x.fl%2=1),0,0⟩ x.fl=R):=hR
 rw[hR]
 clear hR
 have hm0:m=gm0:=by have:=(h.idle_nil hi).2.2;rw[hb] at this;exact this
 obtain⟨hA,hc,-⟩:=h.idle_nil hi
 subst hm0 hA hc
 obtain⟨w1,hw1,t1,t2,t3,t4⟩:=Jq w x
 have T7:=z2w hw1
 have TX:=z2w t1
 have TW:=z2w t2
 have H:=z2w (h.below t3)
 have HF:Hid (Fs (gvS g (.slice none gm0.blk.length 0)) w w1):=Fs.of_below t3
 have HD:Hid (RdS w1 (λk=>k≠g∧k<w.heap.size) x.dA (byc d)):=(hD.imp (λk hk hl=>(⟨hk,hl⟩:k≠g∧k<w.heap.size))).keep λk hk=>t3.block k hk.2
 have HSZ:Hid (w1.heap.size=w.heap.size+2):=t4
 have HFL:=z2w hfl
 have HDN:=z2w hdn
 have HDL:=z2w hd
 obtain⟨f0,f1,f2,f3,f4,f5⟩:=js H.out.row
 obtain⟨c0,c1,c2,_⟩:=zf TX.out
 rw[Ql] at f5
 clear hw1 t1 t2 t3 t4 h hfl hdn hd hD
 have hn1:=z0k ⟨x.fl,HFL.out⟩
 simp only at hn1
 have hb1:=z0v x.fl
 obtain⟨en,hen⟩:∃en,decide (x.fl%2=1)=en:=⟨_,rfl⟩
 rw[hen] at hb1 HRR
 obtain⟨z,hz⟩:∃z:Nat,z=x.fl%2:=⟨_,rfl⟩
 rw[←hz] at hn1 hb1
 have e1:((x.ty:Int) == 1)=true:=by rw[ht];rfl
 have f3':w1.cell? ⟨g,3,none⟩=some (.bool false):=f3
 have ht3:=H.out.row.thawed 3
 clear hb hi ht hen hz f0 f1 f2 f3 f4
 have HR1:Hid (Row w1 g 147 (gac 0 none 0 0 false false 0 none)):=H.out.row
 have HLO:=z2w H.out.lo
 have HR2:Hid (Row (w1.setCell ⟨g,3,none⟩ (.bool true)) g 147 (gac 0 none 0 0 false true 0 none)):=by
  have:=HR1.out.stored 3 (.bool true)
  rw[ztf] at this
  exact this
 have TX2:=z2w (TX.out.set_far (Row.ne TX.out HR1.out (by decide)) 3 (.bool true))
 have TW2:=z2w (TW.out.set_far (Row.ne TW.out HR1.out (by decide)) 3 (.bool true))
 have HF2:=z2w (HF.out.setCell (g:=g) (λ_=>.inl rfl) 3 (.bool true))
 have HD2:Hid (RdS (w1.setCell ⟨g,3,none⟩ (.bool true)) (λk=>k≠g∧k<w.heap.size) x.dA (byc d)):=HD.out.keep λj hj=>Below.heap_setCell w1 _ _ j hj.1
 have HSZ2:Hid ((w1.setCell ⟨g,3,none⟩ (.bool true)).heap.size=w.heap.size+2):=by show _=_;rw[←HSZ.out];simp[World.setCell]
 have HTH:Hid ((w1.setCell ⟨g,3,none⟩ (.bool true)).there g 0 (whc x.st none 0 0 en).size):=zte HR2.out _ (zpy _ _ _ _ _)
 go_enter Tryz.func129,Tryz.ntmps129
 go_upto_region 1 with fail
 rw[T7.out]
 clear T7
 go_upto_region 10 with fail
 clear H HR1 TX TW HF HD HSZ f3' f5 ht3 c0 c1 c2
 generalize w1.setCell ⟨g,3,none⟩ (.bool true)=w2 at *
 obtain⟨_,c1,c2,_⟩:=zf TX2.out
 have HR3:=z2w (zpx HR2.out x.st none 0 0 en)
 have TX3:Hid (Row (w2.setCells g 0 (whc x.st none 0 0 en).toList) w.heap.size 66 x.c):=(Xl _ w2 g _ 0 (Row.ne TX2.out HR2.out (by decide))).trans TX2.out
 have TW3:Hid (Row (w2.setCells g 0 (whc x.st none 0 0 en).toList) (w.heap.size+1) 128 (whc 0 none 0 0 false)):=(Xl _ w2 g _ 0 (Row.ne TW2.out HR2.out (by decide))).trans TW2.out
 have HF3:=z2w (zor HF2.out (g:=g) (λ_=>.inl rfl) (whc x.st none 0 0 en).toList 0)
 have HD3:Hid (RdB (w2.setCells g 0 (whc x.st none 0 0 en).toList) w.heap.size x.dA d):=RdB.ofS (HD2.out.keep λj hj=>Xl _ w2 g j 0 hj.1) (λj hj _=>hj.2)
 have HSZ3:Hid ((w2.setCells g 0 (whc x.st none 0 0 en).toList).heap.size=w.heap.size+2):=by show _=_;rw[zlx];exact HSZ2.out
 go_upto_region 11 with (first|(refine zn rfl 128 _ rfl (whc x.st none 0 0 en) (by kernel_rfl) ?_)|(refine ziu (cs:=whc x.st none 0 0 en) rfl _ _ rfl rfl rfl HTH.out (qd _ _ _ _ _) ?_))
 clear HR2 TX2 TW2 HF2 HD2 HSZ2 HTH c1 c2 hn1 hb1
 generalize w2.setCells g 0 (whc x.st none 0 0 en).toList=w3 at *
 go_wp2_with (refine zg rfl _ rfl rfl TX3.out ?_)
 refine(zhl (base:=base) (blk:=[]) (d:=d) HR3.out Bo.nil (HD3.out.more (by rw[HSZ3.out];omega)) HDN.out HFL.out HLO.out (by simp) HDL.out (by omega)).mono ?_
 intro e w4 ht
 rw[HRR.out] at ht
 have HT:=z2w (ht.from HF3.out)
 have TW4:Hid (Row w4 (w.heap.size+1) 128 (whc 0 none 0 0 false)):=by
  obtain⟨_,_,_,_,hf,_⟩:=ht
  exact hf.row (λh=>by
   rcases h with h|h
   ·exact Row.ne TW3.out HR3.out (by decide) h
   ·simp[ob,Value.ownBlock] at h) TW3.out
 obtain⟨A',c',o,rfl,-⟩:=ht
 clear HR3 TX3 TW3 HF3 HD3
 go_wp2_with (refine ze rfl _ _ rfl rfl rfl TW4.out (j4 _ _ _ _ _ _ _ _ _ _) (qd _ _ _ _ _) ?_)
 refine bodyPost_ret (yt rfl _ rfl (TW4.out.setRow _) (qd _ _ _ _ _) rfl rfl) rfl ?_
 exact HT.out.stored TW4.out (by omega) _
theorem zof{w:World}{base g:Nat}{m:Gm}{A:Option Addr}{c:Nat}{o:Option Nat}(h:Ga w base g m A c o)(x:Fm)(d:List UInt8)(hfl:x.fl<256)(hx:x.ty=1∨x.ty=9→x.dn=d.length∧d.length≤1000000000∧RdS w (·≠g) x.dA (byc d)) :
  Calls Tryz.prog 129 #[.pointer (some ⟨g,0,none⟩),.agg x.c] w (TkPY w base g (.slice A m.blk.length c) (gtk m x.ty x.fl x.st d)):=by
 rcases h.err with ⟨rfl,hb⟩|⟨p,rfl,hb,_⟩
 ·cases hi:m.busy
  ·by_cases h1:x.ty=1
   ·obtain⟨q1,q2,q3⟩:=hx (.inl h1)
    exact zmr h hb hi x d h1 hfl q1 q2 q3
   ·by_cases h9:x.ty=9
    ·exact zot h hb hi x d h9
    ·exact znc h hb hi x d h1 h9
  ·by_cases h9:x.ty=9
   ·by_cases hs:x.st=m.st
    ·obtain⟨q1,q2,q3⟩:=hx (.inr h9)
     exact zpl h hb hi x d h9 hs hfl q1 q2 q3
    ·exact zhf h hb hi x d h9 hs
   ·exact zhs h hb hi x d h9
 ·exact zr9 h hb x d
end
section
theorem je{a b:Int}(h:a≠b):(a == b)=false:=by rw[zzv];exact decide_eq_false h
theorem zbg(s:Int)(w:World):Calls Tryz.prog 45 #[.int .u8 s] w λe w'=>e=.returned (.bool (decide (1≤s∧s≤3)))∧w'=w:=by
 by_cases h1:s=1
 ·subst h1
  go_enter Tryz.func45,Tryz.ntmps45
  go_wp2
  go_ret
  exact⟨rfl,rfl⟩
 by_cases h2:s=2
 ·subst h2
  clear h1
  go_enter Tryz.func45,Tryz.ntmps45
  go_wp2
  go_ret
  exact⟨rfl,rfl⟩
 by_cases h3:s=3
 ·subst h3
  clear h1 h2
  go_enter Tryz.func45,Tryz.ntmps45
  go_wp2
  go_ret
  exact⟨rfl,rfl⟩
 have hz:decide (1≤s∧s≤3)=false:=decide_eq_false (by omega)
 rw[hz]
 have e1:=je h1
 have e2:=je h2
 have e3:=je h3
 clear h1 h2 h3 hz
 go_enter Tryz.func45,Tryz.ntmps45
 go_wp2
 go_ret
 exact⟨rfl,rfl⟩
theorem zjs(k:Int)(w:World):Calls Tryz.prog 69 #[.int .u8 k] w λe w'=>e=.returned (.bool (car k))∧w'=w:=by
 by_cases h1:k=1
 ·subst h1
  go_enter Tryz.func69,Tryz.ntmps69
  go_wp2
  go_ret
  exact⟨rfl,rfl⟩
 by_cases h2:k=0
 ·subst h2
  clear h1
  go_enter Tryz.func69,Tryz.ntmps69
  go_wp2
  go_ret
  exact⟨rfl,rfl⟩
 have hz:car k=false:=decide_eq_false (by omega)
 rw[hz]
 have e1:=je h1
 have e2:=je h2
 clear h1 h2 hz
 go_enter Tryz.func69,Tryz.ntmps69
 go_wp2
 go_ret
 exact⟨rfl,rfl⟩
theorem zj3(s:Int)(e:Bool)(w:World):Calls Tryz.prog 236 #[.int .u8 s,.bool e] w λe' w'=>e'=.returned (.int .u8 (za3 s e))∧w'=w:=by
 cases e
 ·go_enter Tryz.func236,Tryz.ntmps236
  go_wp2
  go_ret
  exact⟨rfl,rfl⟩
 by_cases h1:s=2
 ·subst h1
  go_enter Tryz.func236,Tryz.ntmps236
  go_wp2
  go_ret
  exact⟨rfl,rfl⟩
 have hz:za3 s true=3:=by simp[za3,h1]
 rw[hz]
 have e1:=je h1
 clear h1 hz
 go_enter Tryz.func236,Tryz.ntmps236
 go_wp2
 go_ret
 exact⟨rfl,rfl⟩
theorem Xn(s:Int)(e:Bool)(w:World):Calls Tryz.prog 70 #[.int .u8 s,.bool e] w λe' w'=>e'=.returned (.int .u8 (Xy s e))∧w'=w:=by
 cases e
 ·go_enter Tryz.func70,Tryz.ntmps70
  go_wp2
  go_ret
  exact⟨rfl,rfl⟩
 by_cases h1:s=3
 ·subst h1
  go_enter Tryz.func70,Tryz.ntmps70
  go_wp2
  go_ret
  exact⟨rfl,rfl⟩
 have hz:Xy s true=2:=by simp[Xy,h1]
 rw[hz]
 have e1:=je h1
 clear h1 hz
 go_enter Tryz.func70,Tryz.ntmps70
 go_wp2
 go_ret
 exact⟨rfl,rfl⟩
def zbd(n l:Int)(c:Bool):Bool:=(decide (n%2=1) == c)&&(decide (l<n)&&decide (n≤2147483647))
theorem zas(n l:Int)(c:Bool)(hn:0≤n∧n≤4294967295)(w:World):Calls Tryz.prog 33 #[.int .u32 n,.int .u32 l,.bool c] w λe' w'=>e'=.returned (.bool (zbd n l c))∧w'=w:=by
 have hm:n.tmod 2=n%2:=Int.tmod_eq_emod_of_nonneg hn.1
 have hw:IntKind.u32.wrap (n%2)=n%2:=IntWalk.u32_in _ (by omega)
 have hr:n%2=0∨n%2=1:=by omega
 clear hn
 unfold zbd
 rcases hr with h|h
 all_goals
  rw[h] at hm hw ⊢
  by_cases h1:l<n
  ·by_cases h2:n≤2147483647
   ·cases c
    all_goals
     rw[decide_eq_true h1,decide_eq_true h2]
     go_enter Tryz.func33,Tryz.ntmps33
     go_wp2
     go_ret
     exact⟨rfl,rfl⟩
   ·have d2:decide (n≤2147483647)=false:=decide_eq_false h2
    clear h2
    cases c
    all_goals
     rw[decide_eq_true h1,d2]
     go_enter Tryz.func33,Tryz.ntmps33
     go_wp2
     go_ret
     exact⟨rfl,rfl⟩
  ·have d1:decide (l<n)=false:=decide_eq_false h1
   clear h1
   rw[d1,Bool.false_and,Bool.and_false]
   cases c
   all_goals
    go_enter Tryz.func33,Tryz.ntmps33
    go_wp2
    go_ret
    exact⟨rfl,rfl⟩
end
end Go.Proofs.YtooaajnkiokpnaaGreatDoor
