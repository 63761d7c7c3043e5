import Derived.Test.YtjmmpnmgpgaagaaGreatDoorM30
set_option maxRecDepth 100000
set_option maxHeartbeats 8000000
open Go renaming Calls → U, World → K, Addr → N, Value → ia
open Go.Ending renaming returned → Z
open Go.IntKind renaming i64 → S
open Go.Obj renaming cells → ib
open Go.Proofs.Tryz renaming prog → J
open Go.RowKit renaming Hid → H, Below → M
open Go.Value renaming int → I, string → O, pointer → Y, slice → T, agg → ic, bool → ih
namespace Go.Proofs.YtjmmpnmgpgaagaaGreatDoor
open Go.RowKit Go.Sort

theorem rZ (h j k n r:Int) (A:Option N) (cap:Nat) (w:K) (hr:al w A [h,j,k,n,r]):U J 44 #[O ⟨rg.toArray⟩,T A 5 cap] w fun e w'=>e= Z (ic #[I S 1,I S h,I S 0,I S 0,I S 1,I S j,I S k,I S n,I S r,O ⟨#[]⟩])/\Gr w w':=by
 have L:Tryz.prog.follows .mixedOrders=true:=by kernel_rfl
 obtain ⟨w1,F⟩:∃W,w.alloc (ib #[I S 0,I S 0,I S 0,I S 0,I S 0,I S 0,I S 0,I S 0,I S 0,O ⟨#[]⟩] 97)=W:=⟨_,rfl⟩
 have C:Gr w w1:=by rw[<-F];exact (gR w).alloc _
 have u:Cls w1 w.heap.size [I S 0,I S 0,I S 0,I S 0,I S 0,I S 0,I S 0,I S 0,I S 0,O ⟨#[]⟩]:=by rw[<-F];exact Cls.new w _ _
 obtain ⟨b,g,rfl,hb,E⟩:=(hr.gr C).at (m:=0) (by simp)
 have c0:w1.cell? ⟨b,g,none⟩=some (I S h):=by simpa[df] using E 0 (by simp) 0 (by omega)
 have c1:w1.cell? ⟨b,g+1,none⟩=some (I S j):=by simpa[df] using E 1 (by simp) 0 (by omega)
 have c2:w1.cell? ⟨b,g+2,none⟩=some (I S k):=by simpa[df] using E 2 (by simp) 0 (by omega)
 have c3:w1.cell? ⟨b,g+3,none⟩=some (I S n):=by simpa[df] using E 3 (by simp) 0 (by omega)
 have c4:w1.cell? ⟨b,g+4,none⟩=some (I S r):=by simpa[df] using E 4 (by simp) 0 (by omega)
 clear E hr
 obtain ⟨R,p1,p2,p3,p4,p5,p6,p7,p8,p9⟩:=gj u
 obtain ⟨z0,z1,z2,z3,z4,z5,z6,z7,z8,z9⟩:=pz u
 have f:H (Cls ((((((((((w1.setCell ⟨w.heap.size,0,none⟩ (I S 1)).setCell ⟨w.heap.size,1,none⟩ (I S h)).setCell ⟨w.heap.size,2,none⟩ (I S 0)).setCell ⟨w.heap.size,3,none⟩ (I S 0)).setCell ⟨w.heap.size,4,none⟩ (I S 1)).setCell ⟨w.heap.size,5,none⟩ (I S j)).setCell ⟨w.heap.size,6,none⟩ (I S k)).setCell ⟨w.heap.size,7,none⟩ (I S n)).setCell ⟨w.heap.size,8,none⟩ (I S r)).setCell ⟨w.heap.size,9,none⟩ (O ⟨#[]⟩)).drew w.heap.size [I S 1,I S h,I S 0,I S 0,I S 1,I S j,I S k,I S n,I S r,O ⟨#[]⟩]/\Gr w ((((((((((w1.setCell ⟨w.heap.size,0,none⟩ (I S 1)).setCell ⟨w.heap.size,1,none⟩ (I S h)).setCell ⟨w.heap.size,2,none⟩ (I S 0)).setCell ⟨w.heap.size,3,none⟩ (I S 0)).setCell ⟨w.heap.size,4,none⟩ (I S 1)).setCell ⟨w.heap.size,5,none⟩ (I S j)).setCell ⟨w.heap.size,6,none⟩ (I S k)).setCell ⟨w.heap.size,7,none⟩ (I S n)).setCell ⟨w.heap.size,8,none⟩ (I S r)).setCell ⟨w.heap.size,9,none⟩ (O ⟨#[]⟩)).drew):=⟨((((((((((u.put 0 _).put 1 _).put 2 _).put 3 _).put 4 _).put 5 _).put 6 _).put 7 _).put 8 _).put 9 _).gr (gR _).drew,((((((((((C.setCell (nR _) _).setCell (nR _) _).setCell (nR _) _).setCell (nR _) _).setCell (nR _) _).setCell (nR _) _).setCell (nR _) _).setCell (nR _) _).setCell (nR _) _).setCell (nR _) _).drew⟩
 clear C
 go_enter Tryz.func44,Tryz.ntmps44
 go_wp2_with fail
 go_region
 all_goals
  obtain ⟨W,hW⟩:∃W,((((((((((w1.setCell ⟨w.heap.size,0,none⟩ (I S 1)).setCell ⟨w.heap.size,1,none⟩ (I S h)).setCell ⟨w.heap.size,2,none⟩ (I S 0)).setCell ⟨w.heap.size,3,none⟩ (I S 0)).setCell ⟨w.heap.size,4,none⟩ (I S 1)).setCell ⟨w.heap.size,5,none⟩ (I S j)).setCell ⟨w.heap.size,6,none⟩ (I S k)).setCell ⟨w.heap.size,7,none⟩ (I S n)).setCell ⟨w.heap.size,8,none⟩ (I S r)).setCell ⟨w.heap.size,9,none⟩ (O ⟨#[]⟩)).drew=W:=⟨_,rfl⟩
  rw[hW] at f ⊢
  clear hW R p1 p2 p3 p4 p5 p6 p7 p8 p9
  obtain ⟨R,p1,p2,p3,p4,p5,p6,p7,p8,p9⟩:=gj f.out.1
  go_wp2
  exact bodyPost_ret (v:= ic #[I S 1,I S h,I S 0,I S 0,I S 1,I S j,I S k,I S n,I S r,O ⟨#[]⟩]) (by simp[results,Tryz.results44,go_sem,R,p1,p2,p3,p4,p5,p6,p7,p8,p9]) rfl ⟨rfl,f.out.2⟩
theorem rY (g h j:Int) (A:Option N) (cap:Nat) (w:K) (hr:al w A [g,h,j]):U J 44 #[O ⟨uN.toArray⟩,T A 3 cap] w fun e w'=>e= Z (ic #[I S 1,I S g,I S 0,I S 0,I S 2,I S h,I S j,I S 0,I S 0,O ⟨#[]⟩])/\Gr w w':=by
 have E:Tryz.prog.follows .mixedOrders=true:=by kernel_rfl
 obtain ⟨w1,u⟩:∃W,w.alloc (ib #[I S 0,I S 0,I S 0,I S 0,I S 0,I S 0,I S 0,I S 0,I S 0,O ⟨#[]⟩] 97)=W:=⟨_,rfl⟩
 have n:Gr w w1:=by rw[<-u];exact (gR w).alloc _
 have k:Cls w1 w.heap.size [I S 0,I S 0,I S 0,I S 0,I S 0,I S 0,I S 0,I S 0,I S 0,O ⟨#[]⟩]:=by rw[<-u];exact Cls.new w _ _
 obtain ⟨b,r,rfl,hb,C⟩:=(hr.gr n).at (m:=0) (by simp)
 have c0:w1.cell? ⟨b,r,none⟩=some (I S g):=by simpa[df] using C 0 (by simp) 0 (by omega)
 have c1:w1.cell? ⟨b,r+1,none⟩=some (I S h):=by simpa[df] using C 1 (by simp) 0 (by omega)
 have c2:w1.cell? ⟨b,r+2,none⟩=some (I S j):=by simpa[df] using C 2 (by simp) 0 (by omega)
 clear C hr
 obtain ⟨F,L,R,p3,p4,p5,p6,p7,p8,p9⟩:=gj k
 obtain ⟨z0,z1,z2,z3,z4,z5,z6,z7,z8,z9⟩:=pz k
 have f:H (Cls ((((((((((w1.setCell ⟨w.heap.size,0,none⟩ (I S 1)).setCell ⟨w.heap.size,1,none⟩ (I S g)).setCell ⟨w.heap.size,2,none⟩ (I S 0)).setCell ⟨w.heap.size,3,none⟩ (I S 0)).setCell ⟨w.heap.size,4,none⟩ (I S 2)).setCell ⟨w.heap.size,5,none⟩ (I S h)).setCell ⟨w.heap.size,6,none⟩ (I S j)).setCell ⟨w.heap.size,7,none⟩ (I S 0)).setCell ⟨w.heap.size,8,none⟩ (I S 0)).setCell ⟨w.heap.size,9,none⟩ (O ⟨#[]⟩)).drew w.heap.size [I S 1,I S g,I S 0,I S 0,I S 2,I S h,I S j,I S 0,I S 0,O ⟨#[]⟩]/\Gr w ((((((((((w1.setCell ⟨w.heap.size,0,none⟩ (I S 1)).setCell ⟨w.heap.size,1,none⟩ (I S g)).setCell ⟨w.heap.size,2,none⟩ (I S 0)).setCell ⟨w.heap.size,3,none⟩ (I S 0)).setCell ⟨w.heap.size,4,none⟩ (I S 2)).setCell ⟨w.heap.size,5,none⟩ (I S h)).setCell ⟨w.heap.size,6,none⟩ (I S j)).setCell ⟨w.heap.size,7,none⟩ (I S 0)).setCell ⟨w.heap.size,8,none⟩ (I S 0)).setCell ⟨w.heap.size,9,none⟩ (O ⟨#[]⟩)).drew):=⟨((((((((((k.put 0 _).put 1 _).put 2 _).put 3 _).put 4 _).put 5 _).put 6 _).put 7 _).put 8 _).put 9 _).gr (gR _).drew,((((((((((n.setCell (nR _) _).setCell (nR _) _).setCell (nR _) _).setCell (nR _) _).setCell (nR _) _).setCell (nR _) _).setCell (nR _) _).setCell (nR _) _).setCell (nR _) _).setCell (nR _) _).drew⟩
 clear n
 go_enter Tryz.func44,Tryz.ntmps44
 go_wp2_with fail
 go_region
 all_goals
  obtain ⟨W,hW⟩:∃W,((((((((((w1.setCell ⟨w.heap.size,0,none⟩ (I S 1)).setCell ⟨w.heap.size,1,none⟩ (I S g)).setCell ⟨w.heap.size,2,none⟩ (I S 0)).setCell ⟨w.heap.size,3,none⟩ (I S 0)).setCell ⟨w.heap.size,4,none⟩ (I S 2)).setCell ⟨w.heap.size,5,none⟩ (I S h)).setCell ⟨w.heap.size,6,none⟩ (I S j)).setCell ⟨w.heap.size,7,none⟩ (I S 0)).setCell ⟨w.heap.size,8,none⟩ (I S 0)).setCell ⟨w.heap.size,9,none⟩ (O ⟨#[]⟩)).drew=W:=⟨_,rfl⟩
  rw[hW] at f ⊢
  clear hW F L R p3 p4 p5 p6 p7 p8 p9
  obtain ⟨F,L,R,p3,p4,p5,p6,p7,p8,p9⟩:=gj f.out.1
  go_wp2
  exact bodyPost_ret (v:= ic #[I S 1,I S g,I S 0,I S 0,I S 2,I S h,I S j,I S 0,I S 0,O ⟨#[]⟩]) (by simp[results,Tryz.results44,go_sem,F,L,R,p3,p4,p5,p6,p7,p8,p9]) rfl ⟨rfl,f.out.2⟩
theorem qD (g h:Int) (A:Option N) (cap:Nat) (w:K) (hr:al w A [g,h]):U J 44 #[O ⟨ou.toArray⟩,T A 2 cap] w fun e w'=>e= Z (ic #[I S 2,I S g,I S h,I S 0,I S 0,I S 0,I S 0,I S 0,I S 0,O ⟨#[]⟩])/\Gr w w':=by
 have C:Tryz.prog.follows .mixedOrders=true:=by kernel_rfl
 obtain ⟨w1,n⟩:∃W,w.alloc (ib #[I S 0,I S 0,I S 0,I S 0,I S 0,I S 0,I S 0,I S 0,I S 0,O ⟨#[]⟩] 97)=W:=⟨_,rfl⟩
 have k:Gr w w1:=by rw[<-n];exact (gR w).alloc _
 have j:Cls w1 w.heap.size [I S 0,I S 0,I S 0,I S 0,I S 0,I S 0,I S 0,I S 0,I S 0,O ⟨#[]⟩]:=by rw[<-n];exact Cls.new w _ _
 obtain ⟨b,r,rfl,hb,u⟩:=(hr.gr k).at (m:=0) (by simp)
 have c0:w1.cell? ⟨b,r,none⟩=some (I S g):=by simpa[df] using u 0 (by simp) 0 (by omega)
 have c1:w1.cell? ⟨b,r+1,none⟩=some (I S h):=by simpa[df] using u 1 (by simp) 0 (by omega)
 clear u hr
 obtain ⟨E,F,L,R,p4,p5,p6,p7,p8,p9⟩:=gj j
 obtain ⟨z0,z1,z2,z3,z4,z5,z6,z7,z8,z9⟩:=pz j
 have f:H (Cls ((((((((((w1.setCell ⟨w.heap.size,0,none⟩ (I S 2)).setCell ⟨w.heap.size,1,none⟩ (I S g)).setCell ⟨w.heap.size,2,none⟩ (I S h)).setCell ⟨w.heap.size,3,none⟩ (I S 0)).setCell ⟨w.heap.size,4,none⟩ (I S 0)).setCell ⟨w.heap.size,5,none⟩ (I S 0)).setCell ⟨w.heap.size,6,none⟩ (I S 0)).setCell ⟨w.heap.size,7,none⟩ (I S 0)).setCell ⟨w.heap.size,8,none⟩ (I S 0)).setCell ⟨w.heap.size,9,none⟩ (O ⟨#[]⟩)).drew w.heap.size [I S 2,I S g,I S h,I S 0,I S 0,I S 0,I S 0,I S 0,I S 0,O ⟨#[]⟩]/\Gr w ((((((((((w1.setCell ⟨w.heap.size,0,none⟩ (I S 2)).setCell ⟨w.heap.size,1,none⟩ (I S g)).setCell ⟨w.heap.size,2,none⟩ (I S h)).setCell ⟨w.heap.size,3,none⟩ (I S 0)).setCell ⟨w.heap.size,4,none⟩ (I S 0)).setCell ⟨w.heap.size,5,none⟩ (I S 0)).setCell ⟨w.heap.size,6,none⟩ (I S 0)).setCell ⟨w.heap.size,7,none⟩ (I S 0)).setCell ⟨w.heap.size,8,none⟩ (I S 0)).setCell ⟨w.heap.size,9,none⟩ (O ⟨#[]⟩)).drew):=⟨((((((((((j.put 0 _).put 1 _).put 2 _).put 3 _).put 4 _).put 5 _).put 6 _).put 7 _).put 8 _).put 9 _).gr (gR _).drew,((((((((((k.setCell (nR _) _).setCell (nR _) _).setCell (nR _) _).setCell (nR _) _).setCell (nR _) _).setCell (nR _) _).setCell (nR _) _).setCell (nR _) _).setCell (nR _) _).setCell (nR _) _).drew⟩
 clear k
 go_enter Tryz.func44,Tryz.ntmps44
 go_wp2_with fail
 go_region
 all_goals
  obtain ⟨W,hW⟩:∃W,((((((((((w1.setCell ⟨w.heap.size,0,none⟩ (I S 2)).setCell ⟨w.heap.size,1,none⟩ (I S g)).setCell ⟨w.heap.size,2,none⟩ (I S h)).setCell ⟨w.heap.size,3,none⟩ (I S 0)).setCell ⟨w.heap.size,4,none⟩ (I S 0)).setCell ⟨w.heap.size,5,none⟩ (I S 0)).setCell ⟨w.heap.size,6,none⟩ (I S 0)).setCell ⟨w.heap.size,7,none⟩ (I S 0)).setCell ⟨w.heap.size,8,none⟩ (I S 0)).setCell ⟨w.heap.size,9,none⟩ (O ⟨#[]⟩)).drew=W:=⟨_,rfl⟩
  rw[hW] at f ⊢
  clear hW E F L R p4 p5 p6 p7 p8 p9
  obtain ⟨E,F,L,R,p4,p5,p6,p7,p8,p9⟩:=gj f.out.1
  go_wp2
  exact bodyPost_ret (v:= ic #[I S 2,I S g,I S h,I S 0,I S 0,I S 0,I S 0,I S 0,I S 0,O ⟨#[]⟩]) (by simp[results,Tryz.results44,go_sem,E,F,L,R,p4,p5,p6,p7,p8,p9]) rfl ⟨rfl,f.out.2⟩
theorem qC (g h:Int) (A:Option N) (cap:Nat) (w:K) (hr:al w A [g,h]):U J 44 #[O ⟨oq.toArray⟩,T A 2 cap] w fun e w'=>e= Z (ic #[I S 3,I S g,I S h,I S 0,I S 0,I S 0,I S 0,I S 0,I S 0,O ⟨#[]⟩])/\Gr w w':=by
 have C:Tryz.prog.follows .mixedOrders=true:=by kernel_rfl
 obtain ⟨w1,n⟩:∃W,w.alloc (ib #[I S 0,I S 0,I S 0,I S 0,I S 0,I S 0,I S 0,I S 0,I S 0,O ⟨#[]⟩] 97)=W:=⟨_,rfl⟩
 have k:Gr w w1:=by rw[<-n];exact (gR w).alloc _
 have j:Cls w1 w.heap.size [I S 0,I S 0,I S 0,I S 0,I S 0,I S 0,I S 0,I S 0,I S 0,O ⟨#[]⟩]:=by rw[<-n];exact Cls.new w _ _
 obtain ⟨b,r,rfl,hb,u⟩:=(hr.gr k).at (m:=0) (by simp)
 have c0:w1.cell? ⟨b,r,none⟩=some (I S g):=by simpa[df] using u 0 (by simp) 0 (by omega)
 have c1:w1.cell? ⟨b,r+1,none⟩=some (I S h):=by simpa[df] using u 1 (by simp) 0 (by omega)
 clear u hr
 obtain ⟨E,F,L,R,p4,p5,p6,p7,p8,p9⟩:=gj j
 obtain ⟨z0,z1,z2,z3,z4,z5,z6,z7,z8,z9⟩:=pz j
 have f:H (Cls ((((((((((w1.setCell ⟨w.heap.size,0,none⟩ (I S 3)).setCell ⟨w.heap.size,1,none⟩ (I S g)).setCell ⟨w.heap.size,2,none⟩ (I S h)).setCell ⟨w.heap.size,3,none⟩ (I S 0)).setCell ⟨w.heap.size,4,none⟩ (I S 0)).setCell ⟨w.heap.size,5,none⟩ (I S 0)).setCell ⟨w.heap.size,6,none⟩ (I S 0)).setCell ⟨w.heap.size,7,none⟩ (I S 0)).setCell ⟨w.heap.size,8,none⟩ (I S 0)).setCell ⟨w.heap.size,9,none⟩ (O ⟨#[]⟩)).drew w.heap.size [I S 3,I S g,I S h,I S 0,I S 0,I S 0,I S 0,I S 0,I S 0,O ⟨#[]⟩]/\Gr w ((((((((((w1.setCell ⟨w.heap.size,0,none⟩ (I S 3)).setCell ⟨w.heap.size,1,none⟩ (I S g)).setCell ⟨w.heap.size,2,none⟩ (I S h)).setCell ⟨w.heap.size,3,none⟩ (I S 0)).setCell ⟨w.heap.size,4,none⟩ (I S 0)).setCell ⟨w.heap.size,5,none⟩ (I S 0)).setCell ⟨w.heap.size,6,none⟩ (I S 0)).setCell ⟨w.heap.size,7,none⟩ (I S 0)).setCell ⟨w.heap.size,8,none⟩ (I S 0)).setCell ⟨w.heap.size,9,none⟩ (O ⟨#[]⟩)).drew):=⟨((((((((((j.put 0 _).put 1 _).put 2 _).put 3 _).put 4 _).put 5 _).put 6 _).put 7 _).put 8 _).put 9 _).gr (gR _).drew,((((((((((k.setCell (nR _) _).setCell (nR _) _).setCell (nR _) _).setCell (nR _) _).setCell (nR _) _).setCell (nR _) _).setCell (nR _) _).setCell (nR _) _).setCell (nR _) _).setCell (nR _) _).drew⟩
 clear k
 go_enter Tryz.func44,Tryz.ntmps44
 go_wp2_with fail
 go_region
 all_goals
  obtain ⟨W,hW⟩:∃W,((((((((((w1.setCell ⟨w.heap.size,0,none⟩ (I S 3)).setCell ⟨w.heap.size,1,none⟩ (I S g)).setCell ⟨w.heap.size,2,none⟩ (I S h)).setCell ⟨w.heap.size,3,none⟩ (I S 0)).setCell ⟨w.heap.size,4,none⟩ (I S 0)).setCell ⟨w.heap.size,5,none⟩ (I S 0)).setCell ⟨w.heap.size,6,none⟩ (I S 0)).setCell ⟨w.heap.size,7,none⟩ (I S 0)).setCell ⟨w.heap.size,8,none⟩ (I S 0)).setCell ⟨w.heap.size,9,none⟩ (O ⟨#[]⟩)).drew=W:=⟨_,rfl⟩
  rw[hW] at f ⊢
  clear hW E F L R p4 p5 p6 p7 p8 p9
  obtain ⟨E,F,L,R,p4,p5,p6,p7,p8,p9⟩:=gj f.out.1
  go_wp2
  exact bodyPost_ret (v:= ic #[I S 3,I S g,I S h,I S 0,I S 0,I S 0,I S 0,I S 0,I S 0,O ⟨#[]⟩]) (by simp[results,Tryz.results44,go_sem,E,F,L,R,p4,p5,p6,p7,p8,p9]) rfl ⟨rfl,f.out.2⟩
theorem qE (g:Int) (A:Option N) (cap:Nat) (w:K) (hr:al w A [g]):U J 44 #[O ⟨qn.toArray⟩,T A 1 cap] w fun e w'=>e= Z (ic #[I S 4,I S 0,I S 0,I S g,I S 0,I S 0,I S 0,I S 0,I S 0,O ⟨#[]⟩])/\Gr w w':=by
 have n:Tryz.prog.follows .mixedOrders=true:=by kernel_rfl
 obtain ⟨w1,k⟩:∃W,w.alloc (ib #[I S 0,I S 0,I S 0,I S 0,I S 0,I S 0,I S 0,I S 0,I S 0,O ⟨#[]⟩] 97)=W:=⟨_,rfl⟩
 have j:Gr w w1:=by rw[<-k];exact (gR w).alloc _
 have h:Cls w1 w.heap.size [I S 0,I S 0,I S 0,I S 0,I S 0,I S 0,I S 0,I S 0,I S 0,O ⟨#[]⟩]:=by rw[<-k];exact Cls.new w _ _
 obtain ⟨b,r,rfl,hb,hc⟩:=(hr.gr j).at (m:=0) (by simp)
 have c0:w1.cell? ⟨b,r,none⟩=some (I S g):=by simpa[df] using hc 0 (by simp) 0 (by omega)
 clear hc hr
 obtain ⟨u,C,E,F,L,R,p6,p7,p8,p9⟩:=gj h
 obtain ⟨z0,z1,z2,z3,z4,z5,z6,z7,z8,z9⟩:=pz h
 have f:H (Cls ((((((((((w1.setCell ⟨w.heap.size,0,none⟩ (I S 4)).setCell ⟨w.heap.size,1,none⟩ (I S 0)).setCell ⟨w.heap.size,2,none⟩ (I S 0)).setCell ⟨w.heap.size,3,none⟩ (I S g)).setCell ⟨w.heap.size,4,none⟩ (I S 0)).setCell ⟨w.heap.size,5,none⟩ (I S 0)).setCell ⟨w.heap.size,6,none⟩ (I S 0)).setCell ⟨w.heap.size,7,none⟩ (I S 0)).setCell ⟨w.heap.size,8,none⟩ (I S 0)).setCell ⟨w.heap.size,9,none⟩ (O ⟨#[]⟩)) w.heap.size [I S 4,I S 0,I S 0,I S g,I S 0,I S 0,I S 0,I S 0,I S 0,O ⟨#[]⟩]/\Gr w ((((((((((w1.setCell ⟨w.heap.size,0,none⟩ (I S 4)).setCell ⟨w.heap.size,1,none⟩ (I S 0)).setCell ⟨w.heap.size,2,none⟩ (I S 0)).setCell ⟨w.heap.size,3,none⟩ (I S g)).setCell ⟨w.heap.size,4,none⟩ (I S 0)).setCell ⟨w.heap.size,5,none⟩ (I S 0)).setCell ⟨w.heap.size,6,none⟩ (I S 0)).setCell ⟨w.heap.size,7,none⟩ (I S 0)).setCell ⟨w.heap.size,8,none⟩ (I S 0)).setCell ⟨w.heap.size,9,none⟩ (O ⟨#[]⟩))):=⟨((((((((((h.put 0 _).put 1 _).put 2 _).put 3 _).put 4 _).put 5 _).put 6 _).put 7 _).put 8 _).put 9 _),((((((((((j.setCell (nR _) _).setCell (nR _) _).setCell (nR _) _).setCell (nR _) _).setCell (nR _) _).setCell (nR _) _).setCell (nR _) _).setCell (nR _) _).setCell (nR _) _).setCell (nR _) _)⟩
 clear j
 go_enter Tryz.func44,Tryz.ntmps44
 go_wp2
 all_goals
  obtain ⟨W,hW⟩:∃W,((((((((((w1.setCell ⟨w.heap.size,0,none⟩ (I S 4)).setCell ⟨w.heap.size,1,none⟩ (I S 0)).setCell ⟨w.heap.size,2,none⟩ (I S 0)).setCell ⟨w.heap.size,3,none⟩ (I S g)).setCell ⟨w.heap.size,4,none⟩ (I S 0)).setCell ⟨w.heap.size,5,none⟩ (I S 0)).setCell ⟨w.heap.size,6,none⟩ (I S 0)).setCell ⟨w.heap.size,7,none⟩ (I S 0)).setCell ⟨w.heap.size,8,none⟩ (I S 0)).setCell ⟨w.heap.size,9,none⟩ (O ⟨#[]⟩))=W:=⟨_,rfl⟩
  rw[hW] at f ⊢
  clear hW u C E F L R p6 p7 p8 p9
  obtain ⟨u,C,E,F,L,R,p6,p7,p8,p9⟩:=gj f.out.1
  go_wp2
  exact bodyPost_ret (v:= ic #[I S 4,I S 0,I S 0,I S g,I S 0,I S 0,I S 0,I S 0,I S 0,O ⟨#[]⟩]) (by simp[results,Tryz.results44,go_sem,u,C,E,F,L,R,p6,p7,p8,p9]) rfl ⟨rfl,f.out.2⟩

def fx (X:Nat->Prop) (w0 w:K) (D B:Nat) (d:Dsk) (a:List UInt8) (l:List Int) (A:Option N) (cap:Nat):Prop :=
 U J 29 #[Y (some ⟨D,0,none⟩),O ⟨a.toArray⟩,T A l.length cap] w fun e w'=>e= Z (O ⟨(doD d a l).2.toArray⟩)/\DkP X w0 w' D B (doD d a l).1/\Sav D B w w'
section
variable {X:Nat->Prop} {w0 w:K} {D B:Nat} {d:Dsk}
theorem tH (h:DkP X w0 w D B d) (u:Reads w0) (A:Option N) (cap:Nat):fx X w0 w D B d ir [] A cap:=by
 have E:=h.box.cell (j:=1) rfl
 have F:=h.box.fz 1
 have k:H (DkP X w0 (w.setCell ⟨D,1,none⟩ (O ⟨#[]⟩)) D B ⟨d.m,d.q,[]⟩/\Sav D B w (w.setCell ⟨D,1,none⟩ (O ⟨#[]⟩))):=h.wrote (x:=[]) (nZ _)
 have C:=ja1 ((u.below k.out.1.ahead).tens)
 have n:=ja1 (ci s0 C.out)
 have r:doD d ir []=(⟨d.m,d.q,[]⟩,aO 0):=rfl
 unfold fx
 rw[r]
 clear h u r C
 go_enter Tryz.func29,Tryz.ntmps29
 go_wp2_with fail
 refine ja0 n ?_
 rintro e w1 ⟨rfl,g⟩
 have f:=ja2 (k.out.1.gr g) (k.out.2.trans (Sav.of g.below))
 clear g n
 go_wp2
 go_ret
 exact ⟨rfl,f.out⟩
theorem wP (h:DkP X w0 w D B d) (n:Reads w0) (A:Option N) (cap:Nat):fx X w0 w D B d kY [] A cap:=by
 have j:H _:=tG h (n.below h.ahead)
 have r:H (DkP X w0 w D B d):=h
 have k:doD d kY []=(d,jM d.x):=rfl
 unfold fx
 rw[k]
 clear h n k
 go_enter Tryz.func29,Tryz.ntmps29
 go_wp2_with fail
 refine ja0 j ?_
 rintro e w1 ⟨rfl,g⟩
 have f:H (DkP X w0 w1 D B d/\Sav D B w w1):=⟨r.out.below g,Sav.of g⟩
 clear g j
 go_wp2
 go_ret
 exact ⟨rfl,f.out⟩
theorem wQ (h:DkP X w0 w D B d) (C:Reads w0) (A:Option N) (cap:Nat) (x:Int) (u:al w A [x]):fx X w0 w D B d jc [x] A cap:=by
 obtain ⟨b,g,rfl,F,r⟩:=u.at (m:=0) (by simp)
 have E:w.cell? ⟨b,g,none⟩=some (I S x):=by simpa[df] using r 0 (by simp) 0 (by omega)
 have k:H _:=rF h C x
 have n:doD d jc [x]=dB d x:=rfl
 unfold fx
 rw[n]
 clear h C n r u
 go_enter Tryz.func29,Tryz.ntmps29
 go_wp2_with fail
 refine ja0 k ?_
 rintro e w1 ⟨rfl,j⟩
 have f:=ja1 j
 clear j k
 go_wp2
 go_ret
 exact ⟨rfl,f.out⟩
theorem wN {c:Nat} (h:DkP X w0 w D B d) (E:NInv c d.m) (R:Reads w0) (A:Option N) (cap:Nat):fx X w0 w D B d kX [] A cap:=by
 have c0:=h.box.cell (j:=0) rfl
 have n:H (U J 42 #[Y (some ⟨B,0,none⟩)] w fun e w'=>e= Z (I S 0)/\DkP X w0 w' D B ⟨iy d.m,d.q,d.x⟩/\Sav D B w w'):=by
  obtain ⟨P,Q,h1,h2,h3⟩:=h.net
  refine (zV h1 E).mono ?_
  rintro e w' ⟨rfl,f⟩
  have k:=h.step h2 f
  rw[h3] at k
  exact ⟨rfl,k⟩
 have C:=ja1 R
 have L:doD d kX []=(⟨iy d.m,d.q,d.x⟩,aO 0):=rfl
 obtain ⟨ad,u⟩:∃ad:Dsk,⟨iy d.m,d.q,d.x⟩=ad:=⟨_,rfl⟩
 unfold fx
 rw[L,u]
 rw[u] at n
 clear h R L E u
 go_enter Tryz.func29,Tryz.ntmps29
 go_wp2_with fail
 refine ja0 n ?_
 rintro e w1 ⟨rfl,f⟩
 have r:=ja1 f
 have F:=ja1 (ci s0 (C.out.below r.out.1.ahead).tens)
 clear f n
 go_wp2_with fail
 refine ja0 F ?_
 rintro e w2 ⟨rfl,f⟩
 have g:=ja2 (r.out.1.gr f) (r.out.2.trans (Sav.of f.below))
 clear f F
 go_wp2
 go_ret
 exact ⟨rfl,g.out⟩
theorem wO (h:DkP X w0 w D B d) (E:Reads w0) (A:Option N) (cap:Nat) (x y:Int) (C:al w A [x,y]):fx X w0 w D B d jb [x,y] A cap:=by
 have r:Tryz.prog.follows .mixedOrders=true:=by kernel_rfl
 obtain ⟨b,j,rfl,hb,n⟩:=C.at (m:=0) (by simp)
 have R:w.cell? ⟨b,j,none⟩=some (I S x):=by simpa[df] using n 0 (by simp) 0 (by omega)
 have c1:w.cell? ⟨b,j+1,none⟩=some (I S y):=by simpa[df] using n 1 (by simp) 0 (by omega)
 have F:H (∀W,Gr w W->U J 40 #[Y (some ⟨D,0,none⟩),I S x,I S y] W fun e w'=>e= Z (O ⟨(jL d x y).toArray⟩)/\M w.heap.size w w'):=fun W k=>by
  refine (tF (h.gr k) (E.below (h.gr k).ahead).tens x y).mono ?_
  rintro e w' ⟨rfl,f⟩
  exact ⟨rfl,k.below.trans (f.mono k.size)⟩
 have L:=ja1 h
 have u:doD d jb [x,y]=(d,jL d x y):=rfl
 unfold fx
 rw[u]
 clear h E u n C
 go_enter Tryz.func29,Tryz.ntmps29
 go_wp2_with fail
 go_region_with (go_at_call 40;(with_reducible refine cM (F.out _ (by first|exact gR _|exact (gR _).drew)) ?_);rintro e w1 ⟨rfl,f⟩;have g:H (DkP X w0 w1 D B d/\Sav D B w w1):=⟨L.out.below f,Sav.of f⟩;clear f)
 all_goals
  go_wp2
  go_ret
  exact ⟨rfl,g.out⟩
theorem ze (h:DkP X w0 w D B d) (hr:Reads w0) (A:Option N) (cap:Nat) (x y:Int) (t:List Int) (hl:al w A (x::y::t)) (r:t.length+2<=cap) (C:t.length<=70000):fx X w0 w D B d ot (x::y::t) A cap:=by
 have ad:Tryz.prog.follows .mixedOrders=true:=by kernel_rfl
 obtain ⟨b,f,rfl,hb,L⟩:=hl.at (m:=0) (by simp)
 have R:al w (some ⟨b,f+2,none⟩) t:=az.dropAt hb L 2
 have c0:w.cell? ⟨b,f,none⟩=some (I S x):=L 0 (by simp) 0 (by omega)
 have c1:w.cell? ⟨b,f+1,none⟩=some (I S y):=L 1 (by simp) 0 (by omega)
 have hC:H (∀W P m k,Gr w W->m=t.length->(P=some ⟨b,f+2,none⟩\/t=[])->U J 41 #[Y (some ⟨D,0,none⟩),I S x,I S y,T P m k] W fun e w'=>e= Z (O ⟨(lI d x y t).toArray⟩)/\M w.heap.size w w'):=fun W P m k j hm hP=>by
  subst hm
  have R:al w P t:=hP.elim (fun e=>by rw[e];exact R) fun e=>oL e
  refine (wL (h.gr j) (hr.below (h.gr j).ahead).tens x y t P k (R.gr j) (by unfold maxLen;omega)).mono ?_
  rintro e w' ⟨rfl,g⟩
  exact ⟨rfl,j.below.trans (g.mono j.size)⟩
 have hH:=ja1 h
 have hT:doD d ot (x::y::t)=(d,lI d x y t):=rfl
 unfold fx
 rw[hT]
 obtain ⟨n,hn⟩:∃n,(x::y::t).length=n:=⟨_,rfl⟩
 have F:n=t.length+2:=hn.symm
 rw[hn]
 have n0:(0:Int)<(n:Int):=by omega
 have n1:(1:Int)<(n:Int):=by omega
 have n2:(2:Int)<=(n:Int):=by omega
 have n3:n<=cap:=by omega
 have m0:0<n:=by omega
 have m1:1<n:=by omega
 have m2:2<=n:=by omega
 have E:=ja1 F
 clear h hr hT L hl R hn F C
 obtain rfl|⟨k,rfl⟩:cap=2\/∃k,cap=k+3:=by
  by_cases e:cap=2
  ·exact oL e
  ·exact oR ⟨cap-3,by omega⟩
 all_goals
  clear r
  go_enter Tryz.func29,Tryz.ntmps29
  go_wp2_with fail
  go_region_with (go_at_call 41;(with_reducible refine cM (hC.out _ _ _ _ (by first|exact gR _|exact (gR _).drew) (by have:=E.out;omega) (by first|exact oL rfl|(have:=E.out;exact oR (List.eq_nil_of_length_eq_zero (by omega))))) ?_);rintro e w1 ⟨rfl,g⟩;have u:H (DkP X w0 w1 D B d/\Sav D B w w1):=⟨hH.out.below g,Sav.of g⟩;clear g)
  all_goals
   go_wp2
   go_ret
   exact ⟨rfl,u.out⟩
end

def DI (a:List UInt8):Prop:=a=rg\/a=uN\/a=ou\/a=oq\/a=qn
def BC (y:Hap):ia:= ic #[I S y.k,I S y.a,I S y.b,I S y.n,I S y.e1,I S y.e2,I S y.e3,I S y.e4,I S y.e5,O ⟨#[]⟩]
theorem lX {a:List UInt8} (E:DI a) {l:List Int} (n:eQ a (l.length:Int)=true) {A:Option N} (cap:Nat) {w:K} (r:al w A l) :
  (rX a l).k≠5/\U J 44 #[O ⟨a.toArray⟩,T A l.length cap] w fun e w'=>e= Z (BC (rX a l))/\Gr w w':=by
 rcases E with rfl|rfl|rfl|rfl|rfl
 ·have j:l.length=5:=Int.ofNat_inj.1 (by simpa[eQ] using n)
  obtain ⟨f,g,h,u,C,rfl⟩:∃f g h u C,l=[f,g,h,u,C]:=by
   rcases l with _|⟨f,_|⟨g,_|⟨h,_|⟨u,_|⟨C,_|⟨x5,t⟩⟩⟩⟩⟩⟩<;>simp at j
   exact ⟨_,_,_,_,_,rfl⟩
  exact ⟨by show (1:Int)≠5;decide,rZ f g h u C A cap w r⟩
 ·have j:l.length=3:=Int.ofNat_inj.1 (by simpa[eQ] using n)
  obtain ⟨f,g,h,rfl⟩:∃f g h,l=[f,g,h]:=by
   rcases l with _|⟨f,_|⟨g,_|⟨h,_|⟨u,t⟩⟩⟩⟩<;>simp at j
   exact ⟨_,_,_,rfl⟩
  exact ⟨by show (1:Int)≠5;decide,rY f g h A cap w r⟩
 ·have j:l.length=2:=Int.ofNat_inj.1 (by simpa[eQ] using n)
  obtain ⟨f,g,rfl⟩:∃f g,l=[f,g]:=by
   rcases l with _|⟨f,_|⟨g,_|⟨h,t⟩⟩⟩<;>simp at j
   exact ⟨_,_,rfl⟩
  exact ⟨by show (2:Int)≠5;decide,qD f g A cap w r⟩
 ·have j:l.length=2:=Int.ofNat_inj.1 (by simpa[eQ] using n)
  obtain ⟨f,g,rfl⟩:∃f g,l=[f,g]:=by
   rcases l with _|⟨f,_|⟨g,_|⟨h,t⟩⟩⟩<;>simp at j
   exact ⟨_,_,rfl⟩
  exact ⟨by show (3:Int)≠5;decide,qC f g A cap w r⟩
 ·have j:l.length=1:=Int.ofNat_inj.1 (by simpa[eQ] using n)
  obtain ⟨f,rfl⟩:∃f,l=[f]:=by
   rcases l with _|⟨f,_|⟨g,t⟩⟩<;>simp at j
   exact ⟨_,rfl⟩
  exact ⟨by show (4:Int)≠5;decide,qE f A cap w r⟩
section
variable {X:Nat->Prop} {w0 w:K} {D B:Nat} {d:Dsk}
theorem iL (h:DkP X w0 w D B d) (hr:Reads w0) {a:List UInt8} (F:DI a) {l:List Int} (hf:eQ a (l.length:Int)=true) {A:Option N} (cap:Nat) (hl:al w A l):fx X w0 w D B d a l A cap:=by
 have ap:Tryz.prog.follows .mixedOrders=true:=by kernel_rfl
 have c0:=h.box.cell (j:=0) rfl
 have C:doD d a l=(⟨bW d.m (rX a l),d.q,d.x⟩,aO (cY d.m (rX a l))):=by
  unfold doD
  rcases F with rfl|rfl|rfl|rfl|rfl<;>rfl
 have L:=(lX F hf cap hl).1
 have k:H (∀W,Gr w W->U J 44 #[O ⟨a.toArray⟩,T A l.length cap] W fun e w'=>e= Z (BC (rX a l))/\Gr w w'):=fun W n=>by
  refine (lX F hf cap (hl.gr n)).2.mono ?_
  rintro e w' ⟨rfl,f⟩
  exact ⟨rfl,n.trans f⟩
 obtain ⟨y,hy⟩:∃y,rX a l=y:=⟨_,rfl⟩
 rw[hy] at C L k
 have g:H (∀W,Gr w W->U J 43 #[Y (some ⟨B,0,none⟩),BC y] W fun e w'=>e= Z (I S (cY d.m y))/\DkP X w0 w' D B ⟨bW d.m y,d.q,d.x⟩/\Sav D B w w'):=fun W n=>by
  have hg:=h.gr n
  obtain ⟨P,Q,h1,h2,h3⟩:=hg.net
  refine (ve h1 (hr.below hg.ahead) [] (nZ _) y).mono ?_
  rintro e w' ⟨er,Q',rfl,f,u⟩
  rcases f with ⟨_,rfl,rfl⟩|⟨f,_⟩
  ·obtain ⟨k1,k2⟩:=hg.step h2 u
   rw[h3] at k1
   exact ⟨rfl,k1,(Sav.of n.below).trans k2⟩
  ·exact absurd f L
 obtain ⟨E,R⟩:∃E,cY d.m y=E:=⟨_,rfl⟩
 have ad:H (Small E):=by show Small E;rw[<-R];exact zC _ _
 obtain ⟨a0,hZ⟩:∃a0:Dsk,⟨bW d.m y,d.q,d.x⟩=a0:=⟨_,rfl⟩
 rw[R,hZ] at g C
 have ao:=ja1 hr
 have an:=ja1 h.lt
 obtain ⟨V,hV⟩:∃V,BC y=V:=⟨_,rfl⟩
 rw[hV] at k g
 unfold fx
 rw[C]
 clear h hr C hl hy L R hZ hV hf
 rcases F with rfl|rfl|rfl|rfl|rfl
 all_goals
  go_enter Tryz.func29,Tryz.ntmps29
  go_wp2_with fail
  go_region_with (first
   | (go_at_call 44;(with_reducible refine cM (k.out _ (by first|exact gR _|exact (gR _).drew)) ?_);rintro e w1 ⟨rfl,f⟩;have c1:w1.cell? ⟨D,0,none⟩=some (Y (some ⟨B,0,none⟩)):=(f.cell an.out).trans c0;have ah:H (Gr w w1):=f;clear f)
   | (go_at_call 43;(with_reducible refine cM (g.out _ ah.out) ?_);rintro e w2 ⟨rfl,f,u⟩;have hF:H (DkP X w0 w2 D B a0/\Sav D B w w2):=⟨f,u⟩;clear f u)
   | (go_at_call 10;(with_reducible refine cM (ci ad.out (ao.out.below hF.out.1.ahead).tens) ?_);rintro e w3 ⟨rfl,f⟩;have r:H (DkP X w0 w3 D B a0/\Sav D B w w3):=⟨hF.out.1.gr f,hF.out.2.trans (Sav.of f.below)⟩;clear f))
  all_goals
   go_wp2
   go_ret
   exact ⟨rfl,r.out⟩
theorem zQ {l:List Int} (h:((l.length:Int)==0)=true):l=[]:=List.eq_nil_of_length_eq_zero (by simp at h;exact List.length_eq_zero_iff.2 h)
theorem zd {c:Nat} (h:DkP X w0 w D B d) (E:NInv c d.m) (j:Reads w0) {a:List UInt8} {l:List Int} (g:eQ a (l.length:Int)=true) {A:Option N} {cap:Nat} (r:al w A l) (u:l.length<=cap) (C:l.length<=70000):fx X w0 w D B d a l A cap:=by
 rcases vT a with rfl|rfl|rfl|rfl|rfl|rfl|rfl|rfl|rfl|rfl|rfl|n
 ·obtain rfl:=zQ g
  exact tH h j A cap
 ·obtain rfl:=zQ g
  exact wP h j A cap
 ·obtain rfl:=zQ g
  exact wN h E j A cap
 ·exact iL h j (oR (oR (oR (oR rfl)))) g cap r
 ·have n:l.length=1:=Int.ofNat_inj.1 (by simpa[eQ] using g)
  obtain ⟨f,rfl⟩:∃f,l=[f]:=by
   rcases l with _|⟨f,_|⟨k,t⟩⟩<;>simp at n
   exact ⟨_,rfl⟩
  exact wQ h j A cap f r
 ·exact iL h j (oR (oR (oL rfl))) g cap r
 ·exact iL h j (oR (oR (oR (oL rfl)))) g cap r
 ·have n:l.length=2:=Int.ofNat_inj.1 (by simpa[eQ] using g)
  obtain ⟨f,k,rfl⟩:∃f k,l=[f,k]:=by
   rcases l with _|⟨f,_|⟨k,_|⟨x2,t⟩⟩⟩<;>simp at n
   exact ⟨_,_,rfl⟩
  exact wO h j A cap f k r
 ·exact iL h j (oR (oL rfl)) g cap r
 ·exact iL h j (oL rfl) g cap r
 ·have n:2<=(l.length:Int):=by simpa[eQ] using g
  obtain ⟨f,k,t,rfl⟩:∃f k t,l=f::k::t:=by
   rcases l with _|⟨f,_|⟨k,t⟩⟩
   ·simp at n
   ·simp at n
   ·exact ⟨_,_,_,rfl⟩
  exact ze h j A cap f k t r u (by simp only[List.length_cons] at C;omega)
 ·have:eQ a (l.length:Int)=false:=by
   simp only[beq_eq_false_iff_ne,ne_eq] at n
   simp[eQ,n]
  rw[this] at g
  exact absurd g (by decide)
end

def vW (X:Nat->Prop) (w0 w:K) (D B:Nat) (d:Dsk) (ws:List (List UInt8)) (A:Option N) (cap:Nat):Prop :=
 U J 14 #[Y (some ⟨D,0,none⟩),T A ws.length cap] w fun e w'=>e= Z (O ⟨(de d ws).2.toArray⟩)/\DkP X w0 w' D B (de d ws).1/\Sav D B w w'
section
variable {X:Nat->Prop} {w0 w:K} {D B:Nat} {d:Dsk}
theorem yC (h:DkP X w0 w D B d) (A:Option N) (cap:Nat):vW X w0 w D B d [] A cap:=by
 have f:H (DkP X w0 w D B d/\Sav D B w w):=⟨h,Sav.of (bR _ _)⟩
 unfold vW
 show U _ _ _ _ fun e w'=>e= Z (O ⟨#[]⟩)/\DkP X w0 w' D B d/\Sav D B w w'
 clear h
 go_enter Tryz.func14,Tryz.ntmps14
 go_wp2
 go_ret
 exact ⟨rfl,f.out⟩
structure Beh (w:K) (a:List UInt8) (r:List (List UInt8)) (b off n cap:Nat):Prop where
 cell:w.cell? ⟨b,off,none⟩=some (O ⟨a.toArray⟩)
 lt:b<w.heap.size
 rest:WrdP w (some ⟨b,off+1,none⟩) r
 len:n=r.length+1
 cap:n<=cap
theorem beh {a:List UInt8} {r:List (List UInt8)} {A:Option N} {cap:Nat} (h:WrdP w A (a::r)) (n:r.length+1<=cap):∃b f,A=some ⟨b,f,none⟩/\Beh w a r b f (r.length+1) cap:=by
 obtain ⟨b,f,k,j,g⟩:=h.row.at (m:=0) (by simp)
 refine ⟨b,f,k,g 0 (by simp) 0 (by omega),j,⟨az.dropAt j g 1,?_,fun y u=>h.each y (mC _ u)⟩,rfl,n⟩
 have:=h.len
 simp only[List.length_cons] at this
 omega
theorem WrdP.gr {w w':K} {A:Option N} {r:List (List UInt8)} (h:WrdP w A r) (k:Gr w w'):WrdP w' A r:=⟨h.row.gr k,h.len,h.each⟩
theorem WrdP.to {w:K} {A P:Option N} {r:List (List UInt8)} (h:WrdP w A r) (k:P=A\/r=[]):WrdP w P r:=k.elim (fun e=>e▸h) fun e=>⟨oL e,h.len,h.each⟩
theorem yB (h:DkP X w0 w D B d) {a:List UInt8} {r:List (List UInt8)} {b g n cap:Nat} (k:Beh w a r b g n cap) (C:fr a [35]=true):U J 14 #[Y (some ⟨D,0,none⟩),T (some ⟨b,g,none⟩) n cap] w fun e w'=>e= Z (O ⟨#[]⟩)/\DkP X w0 w' D B d/\Sav D B w w':=by
 have L:=k.cell
 have R:0<n:=by have:=k.len;omega
 have F:((n:Int)==0)=false:=by simp;omega
 have E:H (DkP X w0 w D B d):=h
 have u:H (∀W,U J 7 #[O ⟨a.toArray⟩,O ⟨#[35]⟩] W fun e w'=>e= Z (ih true)/\Gr W w'):=fun W=>by rw[<-C];exact gW a [35] W
 clear h k C
 go_enter Tryz.func14,Tryz.ntmps14
 go_wp2_with fail
 refine cM (u.out _) ?_
 rintro e w1 ⟨rfl,j⟩
 have f:H (DkP X w0 w1 D B d/\Sav D B w w1):=⟨E.out.gr j,Sav.of j.below⟩
 clear j u
 go_wp2
 go_ret
 exact ⟨rfl,f.out⟩
theorem wg (h:DkP X w0 w D B d) (hr:Reads w0) {r:List (List UInt8)} {b g n cap:Nat} (u:Beh w eC r b g n cap):U J 14 #[Y (some ⟨D,0,none⟩),T (some ⟨b,g,none⟩) n cap] w fun e w'=>e= Z (O ⟨(je d r).2.toArray⟩)/\DkP X w0 w' D B (je d r).1/\Sav D B w w':=by
 have c0:=u.cell
 have m0:0<n:=by have:=u.len;omega
 have m1:1<=n:=m0
 have m2:n<=cap:=u.cap
 have b0:((n:Int)==0)=false:=by simp;omega
 have F:=ja3 hr u.len u.lt
 have hC:H (∀W,U J 7 #[O ⟨eC.toArray⟩,O ⟨#[35]⟩] W fun e w'=>e= Z (ih false)/\Gr W w'):=fun W=>gW eC [35] W
 have j:H (∀W P m k,Gr w W->m=r.length->m<=k->(P=some ⟨b,g+1,none⟩\/r=[])->U J 26 #[Y (some ⟨D,0,none⟩),T P m k] W fun e w'=>∃E,e= Z (I S E)/\Small E/\aO E=(je d r).2/\DkP X w0 w' D B (je d r).1/\Sav D B w w'):=fun W P m k j hm hk hP=>by
  subst hm
  refine (rH (h.gr j) r P k ((u.rest.gr j).to hP) hk).mono ?_
  rintro e w' ⟨E,rfl,f,R,C,f4⟩
  exact ⟨E,rfl,f,R,C,(Sav.of j.below).trans f4⟩
 obtain ⟨ah,hZ⟩:∃ah,je d r=ah:=⟨_,rfl⟩
 rw[hZ] at j ⊢
 clear h u hr hZ
 obtain rfl|⟨k,rfl⟩:cap=1\/∃k,cap=k+2:=by
  by_cases e:cap=1
  ·exact oL e
  ·exact oR ⟨cap-2,by omega⟩
 all_goals
  go_enter Tryz.func14,Tryz.ntmps14
  go_wp2_with fail
  refine cM (hC.out _) ?_
  rintro e w1 ⟨rfl,f⟩
  have c1:w1.cell? ⟨b,g,none⟩=some (O ⟨eC.toArray⟩):=(f.cell F.out.2.2).trans c0
  have ad:=ja1 f
  clear f hC
  go_wp2_with fail
  refine cM (j.out _ _ _ _ ad.out (by have:=F.out.2.1;omega) (by have:=F.out.2.1;omega) (by first|exact oL rfl|(have:=F.out.2.1;exact oR (List.eq_nil_of_length_eq_zero (by omega))))) ?_
  rintro e w2 ⟨E,rfl,f,R,C,f4⟩
  have hF:=ja2 C f4
  have hS:H (U J 10 #[I S E] w2 fun e w'=>e= Z (O ⟨ah.2.toArray⟩)/\Gr w2 w'):=by rw[<-R];exact ci f (F.out.1.below C.ahead).tens
  clear f R C f4 j
  go_wp2_with fail
  refine ja0 hS ?_
  rintro e w3 ⟨rfl,f⟩
  have L:=ja2 (hF.out.1.gr f) (hF.out.2.trans (Sav.of f.below))
  clear f hS
  go_wp2
  go_ret
  exact ⟨rfl,L.out⟩
theorem we {c:Nat} (h:DkP X w0 w D B d) (hI:NInv c d.m) (hr:Reads w0) {a:List UInt8} {r:List (List UInt8)} {b E n cap:Nat} (hb:Beh w a r b E n cap) (hp:fr a [35]=false) (hq:(a==eC)=false) :
  U J 14 #[Y (some ⟨D,0,none⟩),T (some ⟨b,E,none⟩) n cap] w fun e w'=>e= Z (O ⟨(de d (a::r)).2.toArray⟩)/\DkP X w0 w' D B (de d (a::r)).1/\Sav D B w w':=by
 have c0:=hb.cell
 have m0:0<n:=by have:=hb.len;omega
 have m1:1<=n:=m0
 have m2:n<=cap:=hb.cap
 have b0:((n:Int)==0)=false:=by simp;omega
 have ah:=hb.rest.len
 have u:H (DkP X w0 w D B d/\Reads w0/\n=r.length+1/\b<w.heap.size/\NInv c d.m/\r.length<=70000):=⟨h,hr,hb.len,hb.lt,hI,ah⟩
 have hC:H (∀W,U J 7 #[O ⟨a.toArray⟩,O ⟨#[35]⟩] W fun e w'=>e= Z (ih false)/\Gr W w'):=fun W=>by rw[<-hp];exact gW a [35] W
 have hA:H (de d (a::r)=match bP r with
  | none=>(d,aO 3)
  | some l=>if eQ a (l.length:Int)=true then doD d a l else (d,aO 3)):=by
  show _=_
  rw[eK,if_neg (by rw[hp];decide),if_neg (by simpa using hq)]
  cases bP r<;>rfl
 obtain ⟨a0,hZ⟩:∃a0,de d (a::r)=a0:=⟨_,rfl⟩
 rw[hZ] at hA ⊢
 have C:H (∀W P m k,Gr w W->m=r.length->(P=some ⟨b,E+1,none⟩\/r=[])->U J 27 #[T P m k] W fun e w'=>∃v,e= Z (.tuple #[v,ih (bP r).isSome])/\M W.heap.size W w'/\∀l,bP r=some l->dr w' W.heap.size v l):=fun W P m k hW hm hP=>by
  subst hm
  exact oM r P k W (hr.below (h.gr hW).ahead) ((hb.rest.gr hW).to hP).row ah
 clear h hb hr hZ hp hI ah
 cases hn:bP r with
 | none =>
  have hZ:H (a0=(d,aO 3)):=by show _=_;rw[hA.out,hn]
  rw[hn] at C
  clear hn hA
  obtain rfl|⟨k,rfl⟩:cap=1\/∃k,cap=k+2:=by
   by_cases e:cap=1
   ·exact oL e
   ·exact oR ⟨cap-2,by omega⟩
  all_goals
   go_enter Tryz.func14,Tryz.ntmps14
   go_wp2_with fail
   refine cM (hC.out _) ?_
   rintro e w1 ⟨rfl,f⟩
   have c1:w1.cell? ⟨b,E,none⟩=some (O ⟨a.toArray⟩):=(f.cell u.out.2.2.2.1).trans c0
   have j:H (Gr w w1):=f
   clear f hC
   go_wp2_with fail
   refine cM (C.out _ _ _ _ j.out (by have:=u.out.2.2.1;omega) (by first|exact oL rfl|(have:=u.out.2.2.1;exact oR (List.eq_nil_of_length_eq_zero (by omega))))) ?_
   rintro e L ⟨v,rfl,f,_⟩
   have hF:H (DkP X w0 L D B d/\Sav D B w L):=⟨(u.out.1.gr j.out).below f,(Sav.of j.out.below).trans (Sav.of f)⟩
   have hS:H (U J 10 #[I S 3] L fun e w'=>e= Z (O ⟨a0.2.toArray⟩)/\Gr L w'):=by rw[hZ.out];exact ci s3 (u.out.2.1.below hF.out.1.ahead).tens
   clear f C
   go_wp2_with fail
   refine ja0 hS ?_
   rintro e R ⟨rfl,f⟩
   have g:H (DkP X w0 R D B a0.1/\Sav D B w R):=⟨by rw[hZ.out];exact hF.out.1.gr f,hF.out.2.trans (Sav.of f.below)⟩
   clear f hS
   go_wp2
   go_ret
   exact ⟨rfl,g.out⟩
 | some l =>
  have hZ:H (a0=if eQ a (l.length:Int)=true then doD d a l else (d,aO 3)):=by show _=_;rw[hA.out,hn]
  rw[hn] at C
  have ap:H (l.length<=70000):=by
   have h1:=pR hn
   have h2:=u.out.2.2.2.2.2
   show _<=_
   omega
  clear hn hA
  obtain ⟨F,hF⟩:∃F,eQ a (l.length:Int)=F:=⟨_,rfl⟩
  have an:H (∀W,U J 28 #[O ⟨a.toArray⟩,I S (l.length:Int)] W fun e w'=>e= Z (ih F)/\w'=W):=fun W=>by rw[<-hF];exact tX a _ W
  have ao:H (eQ a (l.length:Int)=F):=hF
  rw[hF] at hZ
  clear hF
  obtain rfl|⟨k,rfl⟩:cap=1\/∃k,cap=k+2:=by
   by_cases e:cap=1
   ·exact oL e
   ·exact oR ⟨cap-2,by omega⟩
  all_goals
   go_enter Tryz.func14,Tryz.ntmps14
   go_wp2_with fail
   refine cM (hC.out _) ?_
   rintro e w1 ⟨rfl,f⟩
   have c1:w1.cell? ⟨b,E,none⟩=some (O ⟨a.toArray⟩):=(f.cell u.out.2.2.2.1).trans c0
   have j:H (Gr w w1):=f
   clear f hC
   go_wp2_with fail
   refine cM (C.out _ _ _ _ j.out (by have:=u.out.2.2.1;omega) (by first|exact oL rfl|(have:=u.out.2.2.1;exact oR (List.eq_nil_of_length_eq_zero (by omega))))) ?_
   rintro e L ⟨v,rfl,f,f2⟩
   obtain ⟨V,vc,rfl,_,f3,f4,_⟩:=ae.full bS (f2 l rfl)
   have hG:H (DkP X w0 L D B d/\Sav D B w L/\al L V l/\l.length<=vc):=⟨(u.out.1.gr j.out).below f,(Sav.of j.out.below).trans (Sav.of f),f3,f4⟩
   have c2:L.cell? ⟨b,E,none⟩=some (O ⟨a.toArray⟩):=(f.cell (by exact nL u.out.2.2.2.1 j.out.size)).trans c1
   clear f f2 f3 f4 C
   go_wp2_with fail
   refine cM (an.out _) ?_
   rintro e R ⟨rfl,h3⟩
   subst R
   clear an
   cases F with
   | false =>
    have ad:H (a0=(d,aO 3)):=by show _=_;rw[hZ.out,if_neg (by decide)]
    have hS:H (U J 10 #[I S 3] L fun e w'=>e= Z (O ⟨a0.2.toArray⟩)/\Gr L w'):=by rw[ad.out];exact ci s3 (u.out.2.1.below hG.out.1.ahead).tens
    go_wp2_with fail
    refine ja0 hS ?_
    rintro e R ⟨rfl,f⟩
    have g:H (DkP X w0 R D B a0.1/\Sav D B w R):=⟨by rw[ad.out];exact hG.out.1.gr f,hG.out.2.1.trans (Sav.of f.below)⟩
    clear f hS
    go_wp2
    go_ret
    exact ⟨rfl,g.out⟩
   | true =>
    have hS:H (U J 29 #[Y (some ⟨D,0,none⟩),O ⟨a.toArray⟩,T V l.length vc] L fun e w'=>e= Z (O ⟨a0.2.toArray⟩)/\DkP X w0 w' D B a0.1/\Sav D B L w'):=by
     have ad:a0=doD d a l:=by rw[hZ.out,if_pos rfl]
     rw[ad]
     exact zd hG.out.1 u.out.2.2.2.2.1 u.out.2.1 ao.out hG.out.2.2.1 hG.out.2.2.2 ap.out
    go_wp2_with fail
    refine ja0 hS ?_
    rintro e R ⟨rfl,f,f2⟩
    have g:H (DkP X w0 R D B a0.1/\Sav D B w R):=⟨f,hG.out.2.1.trans f2⟩
    clear f f2 hS
    go_wp2
    go_ret
    exact ⟨rfl,g.out⟩
theorem wK {c:Nat} (h:DkP X w0 w D B d) (E:NInv c d.m) (C:Reads w0) {j:List (List UInt8)} {A:Option N} {cap:Nat} (F:WrdP w A j) (f:j.length<=cap):vW X w0 w D B d j A cap:=by
 cases j with
 | nil=>exact yC h A cap
 | cons a r =>
  obtain ⟨b,L,rfl,k⟩:=beh F f
  by_cases g:fr a [35]=true
  ·have e:de d (a::r)=(d,[]):=by rw[eK,if_pos g]
   unfold vW
   rw[e]
   exact yB h k g
  ·have n:fr a [35]=false:=by simpa using g
   by_cases u:a=eC
   ·subst u
    have e:de d (eC::r)=je d r:=by rw[eK,if_neg g,if_pos rfl]
    unfold vW
    rw[e]
    exact wg h C k
   ·exact we h E C k n (by simpa using u)
end

structure BldP (n:Nat) (w:K) (b:Nat) (v:ia) (l:List UInt8):Prop where
 at_:∃p,(p= Y none\/p= Y (some ⟨b,0,none⟩))/\w.heap[b]? = some (ib #[p,v] 38 (0,0))
 own:w.ownsRow n 5 1 v l.length (Lib.byteCells l)
 low:n<=b
structure Bwr (b:Nat) (v:ia) (w w':K):Prop where
 os:w'.os=w.os
 tape:w'.tape=w.tape
 output:w'.output=w.output
 size:w.heap.size<=w'.heap.size
 oth:∀g,g<w.heap.size->g≠b->v.ownBlock≠some g->w'.heap[g]? = w.heap[g]?
theorem BldP.lt {n:Nat} {w:K} {b:Nat} {v:ia} {l:List UInt8} (h:BldP n w b v l):b<w.heap.size:=by
 obtain ⟨p,_,f⟩:=h.at_
 exact (Array.getElem?_eq_some_iff.1 f).1
theorem BldP.ne {n:Nat} {w:K} {b:Nat} {v:ia} {l:List UInt8} (h:BldP n w b v l):v.ownBlock≠some b:=by
 obtain ⟨p,_,f⟩:=h.at_
 exact Lib.ownBlock_ne h.own f Tryz.extraB.neB5
theorem BldP.keep {n:Nat} {w w':K} {b:Nat} {v:ia} {l:List UInt8} (h:BldP n w b v l) (j:w'.heap[b]? = w.heap[b]?) (r:∀g,v.ownBlock=some g->w'.heap[g]? = w.heap[g]?):BldP n w' b v l:=by
 obtain ⟨p,f,k⟩:=h.at_
 refine ⟨⟨p,f,j.trans k⟩,⟨h.own.1,?_⟩,h.low⟩
 rcases h.own.2 with h2|⟨g,cap,cur,rfl,hg,hh,rest⟩
 ·exact .inl h2
 ·exact .inr ⟨g,cap,cur,rfl,hg,(r g rfl).trans hh,rest⟩
theorem BldP.is {n:Nat} {w:K} {b:Nat} {v:ia} {l:List UInt8} (h:BldP n w b v l):Lib.IsBuilder 38 5 n b (Lib.byteCells l) w:=by
 obtain ⟨p,j,g⟩:=h.at_
 have f:w.ownsRow n 5 1 v (Lib.byteCells l).length (Lib.byteCells l):=by rw[Lib.byteCells_length];exact h.own
 rcases j with rfl|rfl
 ·exact oL ⟨h.low,v,g,f,h.ne⟩
 ·exact oR ⟨h.low,v,g,f,h.ne⟩
theorem wh (w:K) (n:Nat) (v:ia) (l x:List UInt8) (r:w.ownsRow n 5 1 v l.length (Lib.byteCells l)) (ah:l.length+x.length<=70000000000) (hn:n<=w.heap.size) (ty:TypeId) :
  ∃v' w',(Builtin.append_ #[36,9] ty #[v,O ⟨x.toArray⟩]).run J w= .ok v' w'/\w'.ownsRow n 5 1 v' (l++x).length (Lib.byteCells (l++x))/\w.grownBy w' v.ownBlock/\∀k,v'.ownBlock=some k->v.ownBlock=some k\/w.heap.size<=k:=by
 obtain ⟨i0,hi,F,L,R⟩:=info_parts Tryz.extraB.infoByte
 have h:(⟨x.toArray⟩:ByteArray).size=x.length:=by simp[ByteArray.size]
 obtain ⟨v',w',hr,h2,h3,h4⟩:=Lib.run_append_own_string (P:=J) w n 36 9 ty 5 i0 Tryz.underlying36 Tryz.underlying9 hi F L R v l.length (Lib.byteCells l) r ⟨x.toArray⟩ (by rw[h];unfold maxLen;omega) (by rw[h];omega) hn
 have e1:Lib.byteCells (l++x)=Lib.byteCells l++Lib.strCells ⟨x.toArray⟩:=by simp[Lib.byteCells,Lib.strCells]
 refine ⟨v',w',hr,?_,h3,?_⟩
 ·rw[List.length_append,e1]
  rw[h] at h2
  exact h2
 ·intro k f
  rcases r.2 with ⟨rfl,_⟩|⟨g,cap,cur,rfl,_,hg,hnc,hcm,hcs,htake⟩
  ·by_cases hm:x.length=0
   ·rw[h4.2 ⟨rfl,h.trans hm⟩] at f
    cases f
   ·have:=run_append_nil_string (P:=J) w 36 9 ty 5 i0 (I .u8 0) Tryz.underlying36 Tryz.underlying9 hi F ⟨x.toArray⟩ (by rw[h];omega) (by rw[h];omega) (by rw[h,R];omega)
    rw[hr] at this
    injection this with this
    rw[this] at f
    injection f with f
    exact oR (Nat.le_of_eq f)
  ·by_cases E:l.length+x.length<=cap
   ·have ad:cur.size=cap:=by simpa using hcs
    have:=Lib.run_append_room_string (P:=J) w 36 9 ty 5 i0 Tryz.underlying36 Tryz.underlying9 hi L g l.length cap cur hg ⟨x.toArray⟩ (by rw[h];exact E) (by rw[h];omega)
    rw[hr] at this
    injection this with this
    rw[this] at f
    exact oL f
   ·have C:∀j u,(Lib.byteCells l)[j]? = some u->w.cell? ((⟨g,0,none⟩:N).add j)=some u:=r.cells (g:=g) rfl
    have:=Lib.run_append_grow_string (P:=J) w 36 9 ty 5 i0 (I .u8 0) Tryz.underlying36 Tryz.underlying9 hi F ⟨g,0,none⟩ l.length cap (Lib.byteCells l) (by rw[L,Lib.byteCells_length,Nat.mul_one]) C ⟨x.toArray⟩ (by rw[h];omega) (by rw[h];omega) (by rw[h,R];exact growslice_fits (by omega) (by omega))
    rw[hr] at this
    injection this with this
    rw[this] at f
    injection f with f
    exact oR (Nat.le_of_eq f)
theorem lQ (w:K) {ops:Array Oper} {f:List Oper} {o:Oper} {a:Act} {Q:Exit->Act->K->Prop} (u:o.guard=none) (s y:Operand)
  (ho:o.op= .call { callee:= .builtin .append,args:= #[s,y],argTypes:= #[36,9] })
  (n:Nat) (v:ia) (l x:List UInt8) (hs:a.eval s=v) (hy:a.eval y= O ⟨x.toArray⟩) (j:w.ownsRow n 5 1 v l.length (Lib.byteCells l)) (g:l.length+x.length<=70000000000) (R:n<=w.heap.size)
  (h:∀r w',w'.ownsRow n 5 1 r (l++x).length (Lib.byteCells (l++x))->w.grownBy w' v.ownBlock->(∀k,r.ownBlock=some k->v.ownBlock=some k\/w.heap.size<=k)->wpList J ops Q f (a.put o.dst r) w'):wpList J ops Q (o::f) a w:=wpList_plain u fun ad L=>by
 obtain ⟨r,w',hr,C,E,F⟩:=wh w n v l x j g R o.type
 unfold Oper.wp execOp
 simp only[ho,resolve,invoke,builtin,Sem.run_bind,Sem.run_pure,Result.andThen_ok,List.map_toArray,List.map_cons,List.map_nil,hs,hy,hr]
 exact L _ _ (h r w' C E F)
theorem qv {n:Nat} {w:K} {b:Nat} {v:ia} {l:List UInt8} (h:BldP n w b v l) (x:List UInt8) (ah:l.length+x.length<=70000000000) (hn:n<=w.heap.size) :
  U J 13 #[Y (some ⟨b,0,none⟩),O ⟨x.toArray⟩] w fun e w'=>e= Z (.tuple #[I S x.length,.nilIface])/\∃v',BldP n w' b v' (l++x)/\Bwr b v w w'/\∀k,v'.ownBlock=some k->v.ownBlock=some k\/w.heap.size<=k:=by
 have hb:=h.lt
 have hC:H (U J 25 #[Y (some ⟨b,0,none⟩)] w fun e w'=>e= Z (.tuple #[])/\w'.heap[b]? = some (ib #[Y (some ⟨b,0,none⟩),v] 38 (0,0))/\w'.ownsRow n 5 1 v l.length (Lib.byteCells l)/\Bwr b v w w'/\w'.heap.size=w.heap.size):=by
  obtain ⟨p,R,hp⟩:=h.at_
  rcases R with rfl|rfl
  ·have hc:=Any.Builder_copyCheck_fresh { Tryz.laysB166 with } Tryz.extraB.toX72 b w (by simp[World.cell?,hp]) (by simp[World.shape?,hp];rfl) (by simp[World.frozen?,hp])
   change U J 25 _ _ _ at hc
   refine hc.mono ?_
   rintro e w' ⟨rfl,rfl⟩
   have ho:∀g,g≠b->(w.setCell ⟨b,0,none⟩ (Y (some ⟨b,0,none⟩))).heap[g]? = w.heap[g]? := fun g j=>Below.heap_setCell _ _ _ _ j
   refine ⟨rfl,?_,⟨h.own.1,?_⟩,⟨rfl,rfl,rfl,by simp,fun g _ j _=>ho g j⟩,by simp⟩
   ·show (w.heap.modify b _)[b]? = _
    rw[Array.getElem?_modify,if_pos rfl,hp]
    rfl
   ·rcases h.own.2 with h2|⟨g,cap,cur,C,j,hh,rest⟩
    ·exact .inl h2
    ·exact .inr ⟨g,cap,cur,C,j,(ho g fun e=>h.ne (by rw[C,<-e];rfl)).trans hh,rest⟩
  ·have hc:=Any.Builder_copyCheck_used { Tryz.laysB166 with } Tryz.extraB.toX72 b w (by simp[World.cell?,hp])
   change U J 25 _ _ _ at hc
   refine hc.mono ?_
   rintro e w' ⟨rfl,rfl⟩
   exact ⟨rfl,hp,h.own,⟨rfl,rfl,rfl,nR _,fun _ _ _ _=>rfl⟩,rfl⟩
 have hH:=ja4 hb hn h.ne h.low
 clear h hb hn
 go_enter Tryz.func13,Tryz.ntmps13
 go_wp2_with fail
 refine ja0 hC ?_
 rintro e w1 ⟨rfl,f1,f2,f3,f4⟩
 have c0:w1.cell? ⟨b,0,none⟩=some (Y (some ⟨b,0,none⟩)):=by simp[World.cell?,f1]
 have c1:w1.cell? ⟨b,1,none⟩=some v:=by simp[World.cell?,f1]
 have r:=ja4 f1 f2 f3 f4
 clear f1 f2 f3 f4 hC
 go_wp2_with (at_builtin;refine lQ _ rfl _ _ rfl n v l x rfl rfl r.out.2.1 ah (by have:=r.out.2.2.2;have:=hH.out.2.1;omega) ?_)
 intro v' u g0 L g3
 have g1:u.ownsRow n 5 1 v' (l++x).length (Lib.byteCells (l++x)):=by rw[List.length_append];exact g0
 have f:u.heap[b]? = some (ib #[Y (some ⟨b,0,none⟩),v] 38 (0,0)):=(L.block b (by have:=r.out.2.2.2;have:=hH.out.1;omega) fun e=>hH.out.2.2.1 e.symm).trans r.out.1
 have d0:u.cell? ⟨b,0,none⟩=some (Y (some ⟨b,0,none⟩)):=by simp[World.cell?,f]
 have d1:u.cell? ⟨b,1,none⟩=some v:=by simp[World.cell?,f]
 have d2:u.frozen? ⟨b,1,none⟩=false:=by simp[World.frozen?,f]
 obtain ⟨E,F,cap,rfl⟩:∃E F cap,v'= T E F cap:=by
  rcases g1.2 with ⟨C,_⟩|⟨g,cap,cur,C,_⟩
  ·exact ⟨_,_,_,C⟩
  ·exact ⟨_,_,_,C⟩
 have ad:H (BldP n (u.setCell ⟨b,1,none⟩ (T E F cap)) b (T E F cap) (l++x)/\Bwr b v w (u.setCell ⟨b,1,none⟩ (T E F cap))/\∀k,(Value.slice E F cap).ownBlock=some k->v.ownBlock=some k\/w.heap.size<=k):=by
  have ho:∀g,g≠b->(u.setCell ⟨b,1,none⟩ (T E F cap)).heap[g]? = u.heap[g]? := fun g j=>Below.heap_setCell _ _ _ _ j
  have an:(Value.slice E F cap).ownBlock≠some b:=Lib.ownBlock_ne g1 f Tryz.extraB.neB5
  have hs:=r.out.2.2.2
  refine ⟨⟨⟨_,oR rfl,?_⟩,⟨g1.1,?_⟩,hH.out.2.2.2⟩,⟨?_,?_,?_,?_,fun g j R h2=> ?_⟩,fun k hk=> ?_⟩
  ·show (u.heap.modify b _)[b]? = _
   rw[Array.getElem?_modify,if_pos rfl,f]
   rfl
  ·rcases g1.2 with h2|⟨g,cap',cur,C,j,hh,rest⟩
   ·exact .inl h2
   ·exact .inr ⟨g,cap',cur,C,j,(ho g fun e=>an (by rw[C,<-e];rfl)).trans hh,rest⟩
  ·exact L.os.trans r.out.2.2.1.os
  ·exact L.tape.trans r.out.2.2.1.tape
  ·exact L.output.trans r.out.2.2.1.output
  ·have:=L.size
   simp
   omega
  ·exact (ho g R).trans ((L.block g (by omega) fun e=>h2 e.symm).trans (r.out.2.2.1.oth g j R h2))
  ·rcases g3 k hk with R|R
   ·exact oL R
   ·exact oR (by omega)
 clear g0 g1 L g3 r f
 go_wp2
 go_ret2
 exact ⟨rfl,_,ad.out⟩
theorem oC {n:Nat} {w:K} {b:Nat} {v:ia} {l:List UInt8} (h:BldP n w b v l) (f:n<=w.heap.size) :
  U J 16 #[Y (some ⟨b,0,none⟩)] w fun e w'=>e= Z (O ⟨l.toArray⟩)/\M n w w':=j8 n b l w h.is f

def Xv (D b:Nat) (v:ia) (x:Nat):Prop:=x=D\/x=b\/v.ownBlock=some x
structure DkB (w0 w:K) (D B b:Nat) (v:ia) (d:Dsk) (l:List UInt8):Prop where
 desk:DkP (Xv D b v) w0 w D B d
 bld:BldP b w b v l
 ltD:D<b
 ltB:B<b
section
variable {w0 w w':K} {D B b:Nat} {v:ia} {d d':Dsk} {l:List UInt8}
theorem DkB.own (h:DkB w0 w D B b v d l) {g:Nat} (f:v.ownBlock=some g):b<=g/\g<w.heap.size:=World.ownsRow.lt h.bld.own g f
theorem DkB.below (h:DkB w0 w D B b v d l) (k:M w.heap.size w w'):DkB w0 w' D B b v d l :=
 ⟨h.desk.below k,h.bld.keep (k.block b h.bld.lt) (fun g f=>k.block g (h.own f).2),h.ltD,h.ltB⟩
theorem DkB.sav (h:DkB w0 w D B b v d l) (r:DkP (Xv D b v) w0 w' D B d') (j:Sav D B w w'):DkB w0 w' D B b v d' l:=by
 have k:=h.ltD
 have n:=h.ltB
 exact ⟨r,h.bld.keep (j.oth b h.bld.lt (by omega) (by omega)) (fun g f=>j.oth g (h.own f).2 (by have:=(h.own f).1;omega) (by have:=(h.own f).1;omega)),k,n⟩
theorem DkB.bwr {L:ia} {l':List UInt8} (h:DkB w0 w D B b v d l) (F:BldP b w' b L l') (j:Bwr b v w w') (k3:∀g,L.ownBlock=some g->v.ownBlock=some g\/w.heap.size<=g):DkB w0 w' D B b L d l':=by
 obtain ⟨P,Q,C,k,h3⟩:=h.desk.net
 have hB:B<w.heap.size:=C.lt
 have R:=h.desk.lt
 have hP:∀g,P g->g≠b/\v.ownBlock≠some g:=fun g f=>⟨fun e=>k b (oR (oL rfl)) (e▸f),fun e=>k g (oR (oR e)) f⟩
 have r:=h.ltD
 have n:=h.ltB
 have E:∀g,g<b->v.ownBlock≠some g:=fun g f e=>by have:=(h.own e).1;omega
 have ad:=h.desk.low
 have ah:=h.desk.ahead.size
 refine ⟨⟨⟨P,Q,C.keep (j.oth B hB (by omega) (E B n)) ⟨j.size,fun g f hl=>j.oth g hl (hP g f).1 (hP g f).2⟩,fun g f u=> ?_,h3⟩,fun g f=> ?_,oL rfl,h.desk.box.keep (j.oth D R (by omega) (E D r)),h.desk.low,h.desk.lowB,h.desk.ne,h.desk.ahead.trans ⟨j.os,j.tape,j.output,j.size,fun g f=>j.oth g (by omega) (by omega) (E g (by omega))⟩,h.desk.txt⟩,F,r,n⟩
 ·rcases f with rfl|rfl|f
  ·exact k _ (oL rfl) u
  ·exact k _ (oR (oL rfl)) u
  ·rcases k3 g f with e|e
   ·exact k g (oR (oR e)) u
   ·have:=C.up g u;omega
 ·rcases f with rfl|rfl|f
  ·exact nL R j.size
  ·exact F.lt
  ·exact (World.ownsRow.lt F.own g f).2
theorem az.keepB {α : Type} {enc: α -> List ia} {k:Nat} {A:Option N} {L:List α} (h:az enc k w A L) (n:w.heap.size<=w'.heap.size) (g:∀a,A=some a->a.block<w.heap.size->w'.heap[a.block]? = w.heap[a.block]?):az enc k w' A L:=by
 rcases h with h|⟨b,off,rfl,hb,hc⟩
 ·exact oL h
 ·exact oR ⟨b,off,rfl,nL hb n,fun j f i hi=>(World.cell?_of_block (a:=⟨b,off+j*k+i,none⟩) (g ⟨b,off,none⟩ rfl hb)).trans (hc j f i hi)⟩
end
theorem yz (d:Dsk) (f:List (List UInt8)):(de d f).2.length<=100001:=by
 have h:=rr d f
 cases e:l8 f with
 | true =>
  obtain ⟨y,j,g⟩:=h.1 e
  rw[j,List.length_append]
  exact Nat.add_le_add_right g 1
 | false=>rw[h.2 e];exact nZ _
theorem pM {x y:List UInt8} (h:y∈dy x):y.length<=x.length:=by
 unfold dy at h
 split at h
 ·exact e7 (List.dropLast_subset _ h)
 ·exact e7 h
theorem Cr {w:K} {A:Option N} {x:List UInt8} (h:x.length<=65536) (f:cw w A (bT x)):WrdP w A (bT x) :=
 ⟨f,nT (List.length_filter_le _ _) (nT (e8 32 x) (by omega)),fun y g=>nT (e7 (List.mem_filter.1 g).1) (by omega)⟩
theorem kP (x:List UInt8) (w:K) (hr:Reads w) (hx:x.length<=maxLen):U J 5 #[O ⟨x.toArray⟩] w fun e w'=>e= Z (O ⟨(cP x).toArray⟩)/\M w.heap.size w w':=by
 have b6:x.length<=9223372036854775807:=by unfold maxLen at hx;exact hx
 have bo:=ja1 hr
 have n:H (∀W,M w.heap.size w W->U J 10 #[I S 2] W fun e w'=>e= Z (O ⟨(aO 2).toArray⟩)/\Gr W w'):=fun W hW=>ci s2 (hr.below hW).tens
 by_cases h1:65536<x.length
 ·have bt:(65536:Int)<(x.length:Int):=by omega
  have hT:H (cP x=aO 2):=by show _=_;unfold cP;rw[if_pos h1]
  clear hr h1
  go_enter Tryz.func5,Tryz.ntmps5
  go_wp2_with fail
  refine cM (n.out _ (bR _ _)) ?_
  rintro e w1 ⟨rfl,f⟩
  have hF:=ja1 f
  clear f n
  go_wp2
  go_ret
  exact ⟨by rw[hT.out];rfl,hF.out.below⟩
 have bt:¬(65536:Int)<(x.length:Int):=by omega
 have hL:H _:=sq x w hr (by omega)
 obtain ⟨L,ah⟩:∃L,dy x=L:=⟨_,rfl⟩
 have bN:H (∀y∈L,y.length<=65536):=fun y hy=>by
  rw[<-ah] at hy
  have:=pM hy
  omega
 have hR:H (cP x=if 200<L.length then aO 2 else (dZ L).2):=by show _=_;unfold cP;rw[if_neg h1,ah]
 rw[ah] at hL
 clear hr hx ah h1
 by_cases h2:200<L.length
 ·have bC:(200:Int)<(L.length:Int):=by omega
  have hT:H (cP x=aO 2):=by show _=_;rw[hR.out,if_pos h2]
  clear h2
  go_enter Tryz.func5,Tryz.ntmps5
  go_wp2_with fail
  refine ja0 hL ?_
  rintro e w1 ⟨⟨A,cap,rfl,_⟩,g⟩
  have hF:=ja1 g
  clear g hL
  go_wp2_with fail
  refine cM (n.out _ hF.out) ?_
  rintro e C ⟨rfl,f⟩
  have hG:=ja1 (hF.out.trans (f.below.mono hF.out.size))
  clear f n
  go_wp2
  go_ret
  exact ⟨by rw[hT.out];rfl,hG.out⟩
 have bC:¬(200:Int)<(L.length:Int):=by omega
 have b2:L.length<=200:=by omega
 have hT:H (cP x=(dZ L).2):=by show _=_;rw[hR.out,if_neg h2]
 have a9:H (∀k,k<=L.length->rk (L.take k)):=fun k hk=>kQ (by omega) k hk
 clear h2 n hR
 go_enter Tryz.func5,Tryz.ntmps5
 go_wp2_with fail
 refine ja0 hL ?_
 rintro e w1 ⟨⟨A,cap,rfl,f⟩,g⟩
 have hF:=ja2 f g
 have a6:H (L=[]\/∀a,A=some a->a.block<w1.heap.size):=by
  rcases f with h|⟨E,ao,rfl,hb,_⟩
  ·exact oL h
  ·exact oR fun a e=>by injection e with e;rw[<-e];exact hb
 have hN:H _:=uo w1
 clear f g hL
 go_wp2_with fail
 refine ja0 hN ?_
 rintro e C ⟨rfl,f,g⟩
 obtain ⟨w3,u⟩:∃W,C.alloc (ib #[Y (some ⟨w1.heap.size,0,none⟩),O ⟨#[]⟩] 34)=W:=⟨_,rfl⟩
 obtain ⟨w4,R⟩:∃W,w3.alloc (ib #[Y none,T none 0 0] 38)=W:=⟨_,rfl⟩
 have be:Gr C w3:=by rw[<-u];exact (gR _).alloc _
 have a3:Gr w3 w4:=by rw[<-R];exact (gR _).alloc _
 have a5:=g.size
 have a4:=hF.out.2.size
 have bp:w3.heap.size=C.heap.size+1:=by rw[<-u];simp
 have ad:=f.lt
 have an:M C.heap.size C w4:=(be.trans a3).below
 have a0:M w.heap.size w w4:=hF.out.2.trans ((g.trans (an.mono a5)).mono a4)
 have a2:H (DkB w w4 C.heap.size w1.heap.size w3.heap.size (T none 0 0) xw []/\cw w4 A L):=by
  have b5:w4.heap.size=w3.heap.size+1:=by rw[<-R];simp
  refine ⟨⟨⟨⟨fun _=>False,fun _=>[],f.below an,fun _ _ h=>h,rfl⟩,fun x hx=> ?_,oL rfl,?_,by omega,a4,by omega,a0,nZ _⟩,⟨⟨_,oL rfl,?_⟩,World.ownsRow_nil _ _ _ _,nR _⟩,by omega,by omega⟩,hF.out.1.below (g.trans (an.mono a5))⟩
  ·rcases hx with rfl|rfl|hx
   ·omega
   ·omega
   ·cases hx
  ·have hc:Cls w3 C.heap.size [Y (some ⟨w1.heap.size,0,none⟩),O ⟨#[]⟩]:=by rw[<-u];exact Cls.new C _ _
   exact hc.gr a3
  ·rw[<-R];exact heap_alloc_new w3 _
 obtain ⟨D,hD⟩:∃D,C.heap.size=D:=⟨_,rfl⟩
 obtain ⟨B,hB⟩:∃B,w1.heap.size=B:=⟨_,rfl⟩
 have hb:w3.heap.size=D+1:=by rw[bp,hD]
 have bG:H (B<D):=by show B<D;omega
 rw[hD,hB,hb] at a2
 rw[hB] at a6
 have a8:H (DkB w ((C.alloc (ib #[Y (some ⟨B,0,none⟩),O ⟨#[]⟩] 34)).alloc (ib #[Y none,T none 0 0] 38)) D B (D+1) (T none 0 0) xw []/\cw ((C.alloc (ib #[Y (some ⟨B,0,none⟩),O ⟨#[]⟩] 34)).alloc (ib #[Y none,T none 0 0] 38)) A L):=by
  rw[hB] at u
  rw[u,R]
  exact a2.out
 clear f g hN be a3 a5 a4 bp ad an a0 hF a2
 go_wp2
 go_loopw [23] (fun v23 wr=>∃k:Nat,k<=L.length/\v23= I S k/\H ((∃v,DkB w wr D B (D+1) v (dZ (L.take k)).1 (dZ (L.take k)).2)/\cw wr A L)) (fun v23 _=>L.length-(intOf v23).toNat)
 case atStart=>exact ⟨0,nZ _,rfl,⟨_,a8.out.1⟩,a8.out.2⟩
 case round =>
  obtain ⟨k,hk,rfl,hI⟩:=hrel
  clear u R hD hB hb
  obtain ⟨v,hv⟩:=hI.out.1
  have ap:=ja1 hI.out.2
  have hJ:=ja1 (a9.out k hk)
  obtain ⟨d,hd⟩:∃d,(dZ (L.take k)).1=d:=⟨_,rfl⟩
  obtain ⟨l,F⟩:∃l,(dZ (L.take k)).2=l:=⟨_,rfl⟩
  rw[hd,F] at hv
  have hK:=ja1 hv
  have bl:H (NInv (L.take k).length d.m/\l.length<=30000000):=by
   have h1:=hJ.out.1.net
   have h2:=hJ.out.2.1
   rw[hd] at h1
   rw[F] at h2
   refine ⟨h1,nT h2 ?_⟩
   have:(L.take k).length<=200:=by rw[List.length_take];omega
   exact nT (Nat.mul_le_mul_right _ this) (by omega)
  clear hv hI hJ
  by_cases j:k<L.length
  rotate_left
  ·have hz:¬(k:Int)<(L.length:Int):=fun e=>j (Int.ofNat_lt.1 e)
   have bh:L.take k=L:=List.take_of_length_le (Nat.not_lt.1 j)
   rw[bh] at F
   have ba:=oC hK.out.bld (Nat.le_of_lt hK.out.bld.lt)
   have hS:=ja1 ba
   clear ba
   have bn:H (w.heap.size<=D+1):=by have h1:=hK.out.desk.low;have h2:=hK.out.ltD;show _<=_;omega
   have bd:H (cP x=l):=by show _=_;rw[hT.out,F]
   clear hd F bh
   go_wp2_with fail
   refine ja0 hS ?_
   rintro e w5 ⟨rfl,f⟩
   have hG:=ja1 (hK.out.desk.ahead.trans (f.mono bn.out))
   clear f hS
   go_wp2
   go_ret
   exact ⟨by rw[bd.out];rfl,hG.out⟩
  have b4:(k:Int)<(L.length:Int):=Int.ofNat_lt.2 j
  obtain ⟨y,hy⟩:∃y,L[k]=y:=⟨_,rfl⟩
  obtain ⟨E,ao,rfl,b3,bc⟩:=ap.out.at j
  have c0:=bc k j 0 (by omega)
  rw[hy] at c0
  have c1:wr.cell? ⟨E,ao+k,none⟩=some (O ⟨y.toArray⟩):=by simpa[g9] using c0
  have bs:H (y.length<=65536):=bN.out y (by rw[<-hy];exact gM j)
  have b0:H (dZ (L.take (k+1))=((de d (bT y)).1,l++(de d (bT y)).2)):=by
   show _=_
   rw[List.take_succ_eq_append_getElem j,hy,qd]
   unfold goD
   rw[hd,F]
  have hW:H _:=tn y wr (bo.out.below hK.out.desk.ahead) bs.out
  clear bc c0 hy hd F
  go_wp2_with fail
  refine ja0 hW ?_
  rintro e w5 ⟨⟨b1,f,rfl,g⟩,f3⟩
  have hG:=ja2 (hK.out.below f3) (ap.out.below f3)
  have a1:=wK hG.out.1.desk bl.out.1 bo.out (Cr bs.out g) f
  unfold vW at a1
  have hA:=ja1 a1
  clear a1
  have r:H (E≠D/\E≠B/\E≠D+1/\v.ownBlock≠some E):=by
   have h1:E<B:=(a6.out.resolve_left fun e=>by rw[e] at j;exact absurd j (Nat.not_lt_zero _)) _ rfl
   have h2:=hK.out.ltB
   have h3:=hK.out.ltD
   have h4:=bG.out
   exact ⟨by omega,by omega,by omega,fun e=>by have:=(hK.out.own e).1;omega⟩
  clear f g f3 hW c1
  go_wp2_with fail
  refine ja0 hA ?_
  rintro e w6 ⟨rfl,f,g⟩
  have hM:H (DkB w w6 D B (D+1) v (de d (bT y)).1 l/\cw w6 (some ⟨E,ao,none⟩) L):=⟨hG.out.1.sav f g,hG.out.2.keepB g.size fun a e F=>by injection e with e;subst e;exact g.oth E F r.out.1 r.out.2.1⟩
  have a7:=qv hM.out.1.bld (de d (bT y)).2 (by have h1:=yz d (bT y);have h2:=bl.out.2;omega) (Nat.le_of_lt hM.out.1.bld.lt)
  have ad:=ja1 a7
  clear a7 f g hA
  go_wp2_with fail
  refine ja0 ad ?_
  rintro e w7 ⟨rfl,v',f,g,f3⟩
  have hO:H ((∃v,DkB w w7 D B (D+1) v (de d (bT y)).1 (l++(de d (bT y)).2))/\cw w7 (some ⟨E,ao,none⟩) L):=⟨⟨v',hM.out.1.bwr f g f3⟩,hM.out.2.keepB g.size fun a e F=>by injection e with e;subst e;exact g.oth E F r.out.2.2.1 r.out.2.2.2⟩
  clear f g f3 ad
  go_wp2
  go_roundw
  case rel=>exact ⟨k+1,by omega,by go_num,by rw[b0.out];exact hO.out⟩
  case measure=>simp[intOf];omega
section
open Go.Shelf Go.Lib
set_option linter.unusedSimpArgs false

def zG {α : Type} (le: α -> α -> Bool) (x: α):List α -> List α
 | []=>[x]
 | y::l=>if le x y then x::y::l else y::zG le x l
def isr {α : Type} (le: α -> α -> Bool):List α -> List α
 | []=>[]
 | x::l=>zG le x (isr le l)
theorem sd {α : Type} {le: α -> α -> Bool} {x: α}:∀(a b:List α),(∀y∈a,le x y=false)->(∀y∈b,le x y=true)->zG le x (a++b)=a++x::b
 | [],[],_,_=>rfl
 | [],y::b,_,h=>by simp[zG,h y (List.mem_cons_self ..)]
 | y::a,b,h,k=>by
  rw[List.cons_append,zG,if_neg (by simp[h y (List.mem_cons_self ..)]),sd a b (fun z f=>h z (mC _ f)) k]
  rfl
theorem qI {α : Type} {le: α -> α -> Bool} (h:∀a b c,le a b=true->le b c=true->le a c=true) (g:∀a b,(le a b || le b a)=true):∀l:List α,l.mergeSort le=isr le l
 | []=>by simp[isr]
 | x::l=>by
  obtain ⟨a,b,j,n,r⟩:=List.mergeSort_cons h g x l
  have k:=List.pairwise_mergeSort h g (x::l)
  rw[j] at k
  rw[isr,<-qI h g l,n,j,sd a b (fun y f=>by simpa using r y f) fun y f=> ?_]
  exact (List.pairwise_cons.1 (List.pairwise_append.1 k).2.1).1 y f
theorem DE (l:List (Int×Int)):srt l=isr (fun x y=> !ltOf eA y x) l:=by
 unfold srt
 refine qI (fun a b c f g=> ?_) (fun a b=> ?_) l
 ·simp only[ltD,Bool.not_eq_true'] at *
  exact jo (x:=a) (y:=b) (z:=c) f g
 ·simp only[ltD,Bool.or_eq_true,Bool.not_eq_true']
  exact pL a b
theorem Ch (l:List Cel):ip l=isr (fun x y=> !g7 y x) l:=by
 unfold ip
 refine qI (fun a b c=> ?_) (fun a b=> ?_) l
 ·simp[g7,br];omega
 ·simp[g7,br];omega
theorem sC (l:List Int):cQ l=compact (isr (fun x y=>decide (x<=y)) l):=by
 unfold cQ
 rw[qI (fun a b c f g=> ?_) (fun a b=> ?_) l]
 ·simp at f g ⊢;omega
 ·simp;omega
end
set_option linter.unusedSimpArgs false

def De:List UInt8:=[112,117,116,32,48,32,48,32,51,32,49,32,55,10,114,111,119,115,32,48,32,48,10,113,117,101,114,121,32,116,97,98,108,101,32,48,10,118,105,101,119,32,48,10,115,101,101,32,48,32,48,10]
def EX:List UInt8:=[111,107,10,51,32,48,32,55,32,48,10,111,107,10,111,107,10,111,107,10,51,32,48,32,55,32,48,10,111,107,10]
def Df:List UInt8:=[35,10,10,115,104,111,119]
def EY:List UInt8:=[101,114,114,111,114,32,49,32,48,10]
def tP:Tab:=⟨⟨1,0,0,0,[]⟩,[((0,1),3,1,7)]⟩
theorem Cu:doE dR 0 1 3 1 7=0/\doT dR 0 1 3 1 7=tP:=by
 simp only[doT,doE,edE,edT,dL,dc,au,ag,aM,aK,eF,gp,aH,mrg,DE,Ch]
 exact ⟨by kernel_rfl,by kernel_rfl⟩
theorem Cv:ofR tP=[([3,0,7,0],1)]:=by
 simp only[ofR,ofL,dd,sC]
 kernel_rfl
theorem Cw:ki [([3,0,7,0],1)] [] 400=0:=by kernel_rfl
theorem E0:ig [([3,0,7,0],1)] [] 400=[[3,0,7,0]]:=by
 unfold ig
 rw[if_pos Cw]
 simp[kO,fg]
theorem E5:dy De=[[112,117,116,32,48,32,48,32,51,32,49,32,55],[114,111,119,115,32,48,32,48],[113,117,101,114,121,32,116,97,98,108,101,32,48],[118,105,101,119,32,48],[115,101,101,32,48,32,48]]:=by kernel_rfl
theorem vA:bP [[48],[48],[51],[49],[55]]=some [0,0,3,1,7]/\bP [[48],[48]]=some [0,0]/\bP [[48]]=some [0]:=⟨by kernel_rfl,by kernel_rfl,by kernel_rfl⟩
def sTb:Stp:=⟨1,0,0,0,0,0,none,0,[]⟩
theorem Cx:rdE [116,97,98,108,101,32,48,10]=0/\rdQ [116,97,98,108,101,32,48,10]=[sTb]:=⟨by kernel_rfl,by kernel_rfl⟩
theorem Cy:bM [sTb] [([3,0,7,0],1)] []=0/\ei [sTb] [([3,0,7,0],1)] []=[([3,0,7,0],1)]:=⟨by kernel_rfl,by kernel_rfl⟩
theorem E7:ofR dR=[]:=by
 simp only[ofR,ofL,dd,sC]
 kernel_rfl
theorem Dg:dy Df=[[35],[],[115,104,111,119]]/\rdE []=1/\rdK []=0:=⟨by kernel_rfl,by kernel_rfl,by kernel_rfl⟩
theorem Dh:d8 [[3,0,7,0]] 1=[51,32,48,32,55,32,48,10]:=by kernel_rfl
theorem Di:cP Df=EY:=by
 unfold cP
 rw[if_neg (by decide),Dg.1,if_neg (by decide)]
 kernel_rfl
def yP:Hap:=⟨1,0,0,0,1,0,3,1,7⟩
theorem vC:cY i7 yP=0/\(bW i7 yP).s 0=tP/\(bW i7 yP).t 0=dR:=by
 refine ⟨?_,?_,rfl⟩
 ·show doE dR 0 1 3 1 7=0
  exact Cu.1
 ·show doT dR 0 1 3 1 7=tP
  exact Cu.2
theorem nk {d d':Dsk} {o o' x:List UInt8} {f:List (List UInt8)} (g:bT x=f) (h:de d f=(d',o')):goD (d,o) x=(d',o++o'):=by
 unfold goD
 rw[g,h]
theorem mv {d:Dsk} {a:List UInt8} {r:List (List UInt8)} {l:List Int} (f:fr a [35]=false) (g:(a==eC)=false) (h:bP r=some l) (j:eQ a (l.length:Int)=true):de d (a::r)=doD d a l:=by
 rw[eK,if_neg (by rw[f];decide),if_neg (by simpa using g),h]
 show (if eQ a (l.length:Int)=true then doD d a l else (d,aO 3))=_
 rw[if_pos j]
theorem vB:gd [([3,0,7,0],1)] []=[51,32,48,32,55,32,48,10,111,107,10]:=by
 unfold gd
 rw[if_pos Cw,E0]
 show d8 [[3,0,7,0]] 1++aO 0=_
 rw[Dh]
 rfl
def d1:Dsk:=⟨bW i7 yP,fun _=>[],[]⟩
def d2:Dsk:=⟨bW i7 yP,fun _=>[],[116,97,98,108,101,32,48,10]⟩
def d3:Dsk:=⟨bW i7 yP,iH (fun _=>[]) 0 [[sTb]],[116,97,98,108,101,32,48,10]⟩
theorem Dj:de xw [rg,[48],[48],[51],[49],[55]]=(d1,[111,107,10]):=by
 rw[mv (by decide) (by decide) vA.1 (by decide)]
 show ((⟨bW i7 yP,fun _=>[],[]⟩,aO (cY i7 yP)):Dsk×List UInt8)=_
 rw[vC.1]
 rfl
theorem Dk:de d1 [jb,[48],[48]]=(d1,[51,32,48,32,55,32,48,10,111,107,10]):=by
 rw[mv (by decide) (by decide) vA.2.1 (by decide)]
 show ((d1,gd (ofR ((bW i7 yP).s 0)) []):Dsk×List UInt8)=_
 rw[vC.2.1,Cv,vB]
theorem Dl:de d1 [eC,[116,97,98,108,101],[48]]=(d2,[111,107,10]):=by
 rw[eK,if_neg (by decide),if_pos rfl]
 show (if 1024<0+(Lib.join [[116,97,98,108,101],[48]] [32]).length+1 then _ else _)=_
 have e:Lib.join [[116,97,98,108,101],[48]] [32]=[116,97,98,108,101,32,48]:=by kernel_rfl
 rw[e,if_neg (by decide)]
 rfl
theorem Dm:de d2 [jc,[48]]=(d3,[111,107,10]):=by
 rw[mv (by decide) (by decide) vA.2.2 (by decide)]
 show dB d2 0=_
 unfold dB
 rw[if_pos (by decide),if_pos (show rdE d2.x=0 from Cx.1)]
 show ((⟨bW i7 yP,iH (fun _=>[]) 0 (wtQ (rdQ [116,97,98,108,101,32,48,10]) []),[116,97,98,108,101,32,48,10]⟩,aO (wtE (rdQ [116,97,98,108,101,32,48,10]) [])):Dsk×List UInt8)=_
 rw[Cx.2,show wtE [sTb] []=0 from by kernel_rfl,show wtQ [sTb] []=[[sTb]] from by kernel_rfl]
 rfl
theorem Dn:de d3 [ot,[48],[48]]=(d3,[51,32,48,32,55,32,48,10,111,107,10]):=by
 rw[mv (by decide) (by decide) vA.2.1 (by decide)]
 show ((d3,if bM [sTb] (ofR ((bW i7 yP).s 0)) (ofR ((bW i7 yP).t 0))=0 then gd (ei [sTb] (ofR ((bW i7 yP).s 0)) (ofR ((bW i7 yP).t 0))) [] else aO (bM [sTb] (ofR ((bW i7 yP).s 0)) (ofR ((bW i7 yP).t 0)))):Dsk×List UInt8)=_
 rw[vC.2.1,vC.2.2,Cv,E7,if_pos Cy.1,Cy.2,vB]
theorem BF:cP De=EX:=by
 unfold cP
 rw[if_neg (by decide),E5,if_neg (by decide)]
 show (goD (goD (goD (goD (goD (xw,[]) [112,117,116,32,48,32,48,32,51,32,49,32,55]) [114,111,119,115,32,48,32,48]) [113,117,101,114,121,32,116,97,98,108,101,32,48]) [118,105,101,119,32,48]) [115,101,101,32,48,32,48]).2=_
 have w0:bT [112,117,116,32,48,32,48,32,51,32,49,32,55]=[rg,[48],[48],[51],[49],[55]]:=by kernel_rfl
 have w1:bT [114,111,119,115,32,48,32,48]=[jb,[48],[48]]:=by kernel_rfl
 have f:bT [113,117,101,114,121,32,116,97,98,108,101,32,48]=[eC,[116,97,98,108,101],[48]]:=by kernel_rfl
 have g:bT [118,105,101,119,32,48]=[jc,[48]]:=by kernel_rfl
 have h:bT [115,101,101,32,48,32,48]=[ot,[48],[48]]:=by kernel_rfl
 rw[nk w0 Dj,nk w1 Dk,nk f Dl,nk g Dm,nk h Dn]
 rfl

theorem nY (x:List UInt8) (w:K) (hx:x.length<=65536):U J 6 #[O ⟨x.toArray⟩] w fun e w'=>(∃A cap,e= Z (T A (dy x).length cap)/\cw w' A (dy x))/\M w.heap.size w w':=by
 have u:H (U J 17 #[O ⟨x.toArray⟩,I .u8 10] w fun e w'=>∃v,e= Z v/\eJ w' w.heap.size v (ac 10 x)/\M w.heap.size w w'):=nS x 10 w (by omega)
 obtain ⟨L,g⟩:∃L,ac 10 x=L:=⟨_,rfl⟩
 have E:L≠[]:=by rw[<-g];exact cF _ _
 have ah:=List.length_pos_iff.2 E
 have ad:L.length<=65537:=by rw[<-g];exact nT (e8 10 x) (by omega)
 obtain ⟨n,j⟩:∃n,L.length=n+1:=⟨L.length-1,by omega⟩
 obtain ⟨y,F⟩:∃y,L[n]'(by omega)=y:=⟨_,rfl⟩
 have hD:H (dy x=if y=[] then L.take n else L):=by
  show _=_
  unfold dy
  rw[g,sp j F,List.dropLast_eq_take,j,Nat.add_sub_cancel]
  by_cases h:y=[]<;>simp[h]
 rw[g] at u
 have r:=ja1 F
 clear hx g F
 go_enter Tryz.func6,Tryz.ntmps6
 go_wp2_with fail
 refine ja0 u ?_
 rintro e w1 ⟨v,rfl,f1,f2⟩
 obtain ⟨A,cap,rfl,_,f3,f4,_⟩:=ae.full du f1
 have f:=ja3 f3 f2 f4
 clear f1 f2 f3 f4 u
 obtain ⟨b,R,rfl,hb,hc⟩:=f.out.1.at (m:=n) (by omega)
 have k:=hc n (by omega) 0 (by omega)
 rw[r.out] at k
 have c1:w1.cell? ⟨b,R+n,none⟩=some (O ⟨y.toArray⟩):=by simpa[g9] using k
 have n1:n+1<=cap:=by have:=f.out.2.2;omega
 clear hc k
 rw[j]
 have ez:((n+1:Nat):Int)-1=(n:Int):=by omega
 by_cases h:y=[]
 ·subst h
  have C:H (dy x=L.take n):=by show _=_;rw[hD.out,if_pos rfl]
  have hl:(L.take n).length=n:=by rw[List.length_take];omega
  go_wp2
  go_ret
  rw[C.out,hl]
  exact ⟨⟨_,_,rfl,f.out.1.take n⟩,f.out.2.1⟩
 ·have hb:(y==[])=false:=by simpa using h
  have C:H (dy x=L):=by show _=_;rw[hD.out,if_neg h]
  go_wp2
  go_ret
  rw[C.out,j]
  exact ⟨⟨_,_,rfl,f.out.1⟩,f.out.2.1⟩
theorem uC (x:List UInt8) (w:K) (hx:x.length<=65536):U J 8 #[O ⟨x.toArray⟩] w fun e w'=>(∃A cap,e= Z (T A (bT x).length cap)/\cw w' A (bT x))/\M w.heap.size w w':=by
 have hS:H (U J 17 #[O ⟨x.toArray⟩,I .u8 32] w fun e w'=>∃v,e= Z v/\eJ w' w.heap.size v (ac 32 x)/\M w.heap.size w w'):=nS x 32 w (by omega)
 obtain ⟨L,hL⟩:∃L,ac 32 x=L:=⟨_,rfl⟩
 have a7:L.length<=65537:=by rw[<-hL];exact nT (e8 32 x) (by omega)
 have hD:H (bT x=L.filter fun y=> !(y==[])):=by show _=_;unfold bT;rw[hL]
 rw[hL] at hS
 clear hx hL
 go_enter Tryz.func8,Tryz.ntmps8
 go_wp2_with fail
 refine ja0 hS ?_
 rintro e w1 ⟨v,rfl,f1,f2⟩
 obtain ⟨A,cap,rfl,_,f3,f4,_⟩:=ae.full du f1
 have hF:=ja3 f3 f2 f4
 clear f1 f2 f3 f4 hS
 go_wp2
 go_loopw [3,5] (fun v i wr=>∃k:Nat,k<=L.length/\i= I S k/\H (eJ wr w1.heap.size v ((L.take k).filter fun y=> !(y==[]))/\M w1.heap.size w1 wr)) (fun _ i _=>L.length-(intOf i).toNat)
 case atStart=>exact ⟨0,nZ _,rfl,ae.nil _ _ _ _ _,bR _ _⟩
 case round =>
  rename K=>g
  obtain ⟨k,hk,rfl,j⟩:=hrel
  by_cases an:k<L.length
  ·have a2:(k:Int)<(L.length:Int):=by omega
   obtain ⟨y,hy⟩:∃y,L[k]=y:=⟨_,rfl⟩
   obtain ⟨b,a6,rfl,hb,ap⟩:=(hF.out.1.below j.out.2).at an
   have e0:=ap k an 0 (by omega)
   rw[hy] at e0
   have e1:g.cell? ⟨b,a6+k,none⟩=some (O ⟨y.toArray⟩):=by simpa[g9] using e0
   have a4:H ((L.take (k+1)).filter (fun y=> !(y==[]))=(L.take k).filter (fun y=> !(y==[]))++(if y=[] then [] else [y])):=by
    show _=_
    rw[List.take_succ_eq_append_getElem an,hy,List.filter_append]
    by_cases h:y=[]<;>simp[h]
   clear ap e0 hy
   by_cases h:y=[]
   ·subst h
    have f:H (eJ g w1.heap.size u3 ((L.take (k+1)).filter fun y=> !(y==[]))/\M w1.heap.size w1 g):=⟨by rw[a4.out,if_pos rfl,List.append_nil];exact j.out.1,j.out.2⟩
    clear j
    go_wp2
    go_roundw
    case rel=>exact ⟨k+1,by omega,by go_num,f.out⟩
    case measure=>simp[intOf];omega
   ·have a5:y.isEmpty=false:=by simpa using h
    have a9:(!y.isEmpty)=true:=by rw[a5];rfl
    have a3:H ((L.take (k+1)).filter (fun y=> !(y==[]))=(L.take k).filter (fun y=> !(y==[]))++[y]):=by show _=_;rw[a4.out,if_neg h]
    obtain ⟨R,F⟩:∃R,(L.take k).filter (fun y=> !(y==[]))=R:=⟨_,rfl⟩
    have a8:R.length<=65537:=by rw[<-F];exact nT (List.length_filter_le _ _) (by rw[List.length_take];omega)
    rw[F] at j a3
    obtain ⟨W2,ad⟩:∃W,(g.alloc (ib #[O ⟨y.toArray⟩] 9))=W:=⟨_,rfl⟩
    have ah:Gr g W2:=by rw[<-ad];exact (gR _).alloc _
    have u:cw W2 (some ⟨g.heap.size,0,none⟩) [y]:=by rw[<-ad];exact my rfl y _
    obtain ⟨A0,n,ao,_⟩:=ae.full du j.out.1
    subst ao
    have C:H (eJ W2 w1.heap.size (T A0 R.length n) R/\cw W2 (some ⟨g.heap.size,0,none⟩) [y]/\R.length+1<=maxLen/\(R.length+1)*16<=140737488355328/\M w1.heap.size w1 W2):=⟨j.out.1.gr ah,u,by unfold maxLen;omega,by omega,j.out.2.trans (ah.below.mono j.out.2.size)⟩
    clear ah u j F h
    go_wp2_with (at_builtin;refine fj _ rfl _ _ rfl w1.heap.size (T A0 R.length n) R [y] (some ⟨g.heap.size,0,none⟩) 1 rfl rfl C.out.1 C.out.2.1 (fun h=>by cases h) C.out.2.2.1 C.out.2.2.2.1 C.out.2.2.2.2.size ?_)
    intro v3 w3 r a0
    clear ad
    have f:H (eJ w3 w1.heap.size v3 ((L.take (k+1)).filter fun y=> !(y==[]))/\M w1.heap.size w1 w3):=⟨by rw[a3.out];exact r,C.out.2.2.2.2.trans (C.out.1.grown_below a0 C.out.2.2.2.2.size)⟩
    clear r a0
    go_wp2
    go_roundw
    case rel=>exact ⟨k+1,by omega,by go_num,f.out⟩
    case measure=>simp[intOf];omega
  ·have a2:¬(k:Int)<(L.length:Int):=by omega
   have a1:L.take k=L:=List.take_of_length_le (by omega)
   rw[a1,<-hD.out] at j
   obtain ⟨A0,n,ao,_,E,_⟩:=ae.full du j.out.1
   subst ao
   have f:=ja2 E (hF.out.2.1.trans (j.out.2.mono hF.out.2.1.size))
   clear j E a1
   go_wp2
   go_ret
   first|exact ⟨⟨_,_,rfl,f.out.1⟩,f.out.2⟩|exact f.out|exact ⟨⟨_,f.out.1⟩,f.out.2⟩|exact ⟨⟨_,rfl,f.out.1⟩,f.out.2⟩|exact ⟨⟨_,⟨_,rfl⟩,f.out.1⟩,f.out.2⟩
end Go.Proofs.YtjmmpnmgpgaagaaGreatDoor
