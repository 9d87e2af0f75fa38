import unittest

from eightbytes.refs import look, root
from tests.reference import parts, reference

LAST = 2 ** 32 - 1


class Root(unittest.TestCase):
    def test_no_rights(self):
        self.assertEqual(root(0), [1, 0x000F_00FF_0000_0000])

    def test_all_rights(self):
        self.assertEqual(root(511), [1, 0xFF8F_00FF_0000_0000])

    def test_the_right_to_seal(self):
        self.assertEqual(root(256), [1, 0x800F_00FF_0000_0000])

    def test_each_set_of_rights(self):
        for rights in range(512):
            number, v = root(rights)
            self.assertEqual(number, 1)
            self.assertEqual(parts(v), (0, 255, 0, 15, 0, rights))
            self.assertEqual(v, reference(upper=255, power=15, rights=rights))

    def test_only_the_lowest_nine_bits_count(self):
        self.assertEqual(root(512), root(0))
        self.assertEqual(root(513), root(1))
        self.assertEqual(root(1023), root(511))
        self.assertEqual(root(768), root(256))
        self.assertEqual(root(2 ** 31), root(0))
        self.assertEqual(root(LAST), root(511))
        self.assertEqual(root(LAST - 511), root(0))
        self.assertEqual(root(LAST - 255), root(256))

    def test_each_single_bit(self):
        for bit in range(32):
            kept = 2 ** bit if bit < 9 else 0
            self.assertEqual(root(2 ** bit), [1, reference(upper=255, power=15, rights=kept)])

    def test_what_look_answers_of_it(self):
        for rights in (0, 1, 255, 256, 511):
            v = root(rights)[1]
            self.assertEqual(look(v), [0, 0, 255 * 2 ** 24, 0, 0, rights, 24])
        self.assertEqual(look(root(LAST)[1]), [0, 0, 4278190080, 0, 0, 511, 24])


if __name__ == "__main__":
    unittest.main()
